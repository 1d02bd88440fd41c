import Derived.Test.YtimmmlnememjiaaGreatDoorX
import Derived.Test.YtimmmlnememjiaaGreatDoorX12
set_option maxRecDepth 100000
set_option maxHeartbeats 16000000
namespace Go.Proofs.YtimmmlnememjiaaGreatDoor
open Go.RowKit
theorem rw_born {C : Prop} {α : Type} {E : Elt α} {S : Nat → Prop} {L : Nat} {w : World} {v : Value} {F : List α → Prop} (h : C → ∃ es, Rw E S L w v es ∧ F es) : C → ∃ es, Rw E (fun b => S b ∧ b < w.heap.size) L w v es ∧ F es := fun hc => by
 obtain ⟨t, h1, h2⟩ := h hc; exact ⟨t, h1.strong, h2⟩
theorem seven_one2 {k a op wd n : Int} {nm : ByteArray} {sa : Option Addr} {sl sc : Nat} {k' a' op' wd' n' : Int} {nm' : ByteArray} {sa' : Option Addr} {sl' sc' : Nat} : ∀ u ∈ [Value.int .i64 k, .int .i64 a, .int .i64 op, .int .i64 wd, .int .u64 n, .string nm, .slice sa sl sc, .int .i64 k', .int .i64 a', .int .i64 op', .int .i64 wd', .int .u64 n', .string nm', .slice sa' sl' sc'], u.oneCell' = true := by
 intro u hu
 simp at hu
 rcases hu with rfl | rfl | rfl | rfl | rfl | rfl | rfl | rfl | rfl | rfl | rfl | rfl | rfl | rfl <;> rfl
theorem adv_le {m m3 mr m' : Nat} {cr c' : Int} (h1 : m3 < m) (h2 : mr ≤ m3) (A : Adv cr mr c' m') : Adv 0 m c' m' := ⟨by have := A.1; omega, fun e => ⟨rfl, by have := (A.2 e).2; omega⟩⟩
theorem meas_next {m m' : Nat} {c' : Int} (A : Adv 0 m c' m') : meas c' m' < meas 0 m := by
 have h1 := A.1
 have h2 := A.2
 unfold meas
 split
 ·rename_i h; have := (h2 h).2; rw [if_pos rfl]; omega
 ·rw [if_pos rfl]; omega
theorem stmt_any (M : Nat) (IH : ∀ M', M' < M → CStmt M') (IC : ∀ M', M' < M → CCases M') : CStmt M := by
 intro br s c m w h hM
 have HX := hI h
 have hlt := h.lt
 have HM := hI hM
 have HI := hI IH
 have HC := hI IC
 clear hM IH IC
 obtain ⟨kq, wdq, nq, Tq, aa, qq, fa, hr, h'⟩ := h
 obtain ⟨f0, f1, f2, f3, f4, f5, f6, f7, f8, fz⟩ := hr.all
 clear hr h'
 go_enter Tryz.func57, Tryz.ntmps57
 go_wp2_with fail
 generalize hW : (w.alloc (.cells _ 93)).alloc (.cells _ 93) = w0
 obtain ⟨hz, r0, r1, kW, sW⟩ := two_boxes hW
 have K0 := kW br
 have X0 := sW br s c m HX.out
 have BR_0 : Hid (w0.heap[w.heap.size]? = some (.cells #[.int .i64 0, .int .i64 0, .bool false, .string ⟨#[]⟩, .slice none 0 0, .slice none 0 0, .slice none 0 0] 93)) := r0
 have BB_0 : Hid (w0.heap[(w.heap.size + 1)]? = some (.cells #[.int .i64 0, .int .i64 aa, .bool false, .string ⟨#[]⟩, .slice none 0 0, .slice none 0 0, .slice none 0 0] 93)) := r1
 have z0 : w.heap.size + 2 = w0.heap.size := hz.symm
 clear hW kW sW r0 r1 hz f0 f1 f2 f3 f4 f5 f6 f7 f8 fz HX
 refine accept_alt X0.out _ ?_ ?_
 ·intro hc0 m3 w3 hm3 hk hx
  subst hc0
  have z3 : w0.heap.size ≤ w3.heap.size := hk.size
  have KK := hI hk
  have K3 : Hid (Kq br w w3) := K0.out.trans hk
  have X3 := hI hx
  clear hk hx X0 K0
  have BR_3 := hI (KK.out.get (by omega) BR_0.out)
  have BB_3 := hI (KK.out.get (by omega) BB_0.out)
  clear BR_0 BB_0
  clear KK
  clear HM HI HC
  obtain ⟨p0B, p1B, p2B, p3B, p4B, p5B, p6B, pfB, plB⟩ := bx BB_3.out
  go_upto_region 38 with fail
  generalize hS : w3.setCell ⟨(w.heap.size + 1), 0, none⟩ _ = w4
  clear p0B p1B p2B p3B p4B p5B p6B pfB plB
  obtain ⟨bb, zz, oo, kk, xx⟩ := set_box hS BB_3.out
  have z4 : w3.heap.size ≤ w4.heap.size := by omega
  have K4 : Hid (Kq br w w4) := kk br w K3.out (by omega)
  have X4 : Hid (Sx br s w4 0 m3) := xx br s 0 m3 X3.out (by omega)
  have BB_4 : Hid (w4.heap[(w.heap.size + 1)]? = some (.cells #[.int .i64 1, .int .i64 aa, .bool false, .string ⟨#[]⟩, .slice none 0 0, .slice none 0 0, .slice none 0 0] 93)) := bb
  clear X3 K3 BB_3
  have BR_4 := hI ((oo _ (by omega)).trans BR_3.out)
  clear BR_3
  clear hS bb zz oo kk xx
  obtain ⟨p0R, p1R, p2R, p3R, p4R, p5R, p6R, pfR, plR⟩ := bx BR_4.out
  obtain ⟨p0B, p1B, p2B, p3B, p4B, p5B, p6B, pfB, plB⟩ := bx BB_4.out
  go_wp2_with fail
  refine bodyPost_ret (v := .agg #[.int .i64 1, .int .i64 aa, .bool false, .string ⟨#[]⟩, .slice none 0 0, .slice none 0 0, .slice none 0 0]) (by simp [results, Tryz.results57, go_sem, *]) rfl (st_close (r := w.heap.size) hlt K4.out X4.out (⟨Nat.le_of_lt hm3, fun _ => ⟨rfl, hm3⟩⟩) (Nat.le_refl _) fun hc => ?_)
  refine ⟨_, ps_none aa, ?_⟩
  show 1 + 2 ≤ _
  omega
 go_wp2_with fail
 refine accept_alt X0.out _ ?_ ?_
 ·intro hc0 m3 w3 hm3 hk hx
  subst hc0
  have z3 : w0.heap.size ≤ w3.heap.size := hk.size
  have KK := hI hk
  have K3 : Hid (Kq br w w3) := K0.out.trans hk
  have X3 := hI hx
  clear hk hx X0 K0
  have BR_3 := hI (KK.out.get (by omega) BR_0.out)
  have BB_3 := hI (KK.out.get (by omega) BB_0.out)
  clear BR_0 BB_0
  clear KK
  have hM1 : Hid (m + 1 ≤ M) := by have := HM.out; simp only [meas, if_pos] at this; exact this
  clear HM
  have hm60 : m3 ≤ 60001 := X3.out.le
  clear HC
  obtain ⟨p0B, p1B, p2B, p3B, p4B, p5B, p6B, pfB, plB⟩ := bx BB_3.out
  go_wp2_with fail
  generalize hS : w3.setCell ⟨(w.heap.size + 1), 0, none⟩ _ = w4
  clear p0B p1B p2B p3B p4B p5B p6B pfB plB
  obtain ⟨bb, zz, oo, kk, xx⟩ := set_box hS BB_3.out
  have z4 : w3.heap.size ≤ w4.heap.size := by omega
  have K4 : Hid (Kq br w w4) := kk br w K3.out (by omega)
  have X4 : Hid (Sx br s w4 0 m3) := xx br s 0 m3 X3.out (by omega)
  have BB_4 : Hid (w4.heap[(w.heap.size + 1)]? = some (.cells #[.int .i64 2, .int .i64 aa, .bool false, .string ⟨#[]⟩, .slice none 0 0, .slice none 0 0, .slice none 0 0] 93)) := bb
  clear X3 K3 BB_3
  have BR_4 := hI ((oo _ (by omega)).trans BR_3.out)
  clear BR_3
  clear hS bb zz oo kk xx
  go_loopg [4] (meas 0 m3) (fun gk _ wr => ∃ (cr : Int) (mr : Nat) (sa : Option Addr) (sl sc : Nat), gk = meas cr mr ∧ Hid (Sx br s wr cr mr) ∧ Hid (Kq br w wr) ∧ Hid (wr.heap[w.heap.size]? = some (.cells #[.int .i64 0, .int .i64 0, .bool false, .string ⟨#[]⟩, .slice none 0 0, .slice none 0 0, .slice none 0 0] 93)) ∧ Hid (wr.heap[(w.heap.size + 1)]? = some (.cells #[.int .i64 2, .int .i64 aa, .bool false, .string ⟨#[]⟩, .slice none 0 0, .slice sa sl sc, .slice none 0 0] 93)) ∧ w4.heap.size ≤ wr.heap.size ∧ Hid (cr = 0 → ∃ xs : List (List Value × List UInt8), Rw elS (fun b => w4.heap.size ≤ b) w4.heap.size wr (.slice sa sl sc) xs ∧ (xs.length + mr ≤ m3 ∧ (spaced (xs.map (fun x : List Value × List UInt8 => x.2))).length ≤ 64 * (m3 - mr))) ∧ mr ≤ m3 ∧ Hid (cr = 0 → True))
  case atStart => exact ⟨0, m3, none, 0, 0, rfl, X4, K4, BR_4, BB_4, Nat.le_refl _, (fun _ => ⟨[], Rw.nil _ _ _ _, by simp [spaced]⟩ : Hid _), Nat.le_refl _, (fun _ => trivial : Hid _)⟩
  case round =>
   obtain ⟨cr, mr, sa, sl, sc, hgk, XR, KR, BR_r, BB_r, zR, PL_r, hmr, _⟩ := hrel
   clear X4 K4 BR_4 BB_4
   have XS := XR.out
   obtain ⟨kt, wdt, nt, Tt, at9, qt, fat, hra, h'⟩ := XS
   obtain ⟨f0, f1, f2, f3, f4, f5, f6, f7, f8, fz⟩ := hra.all
   clear h' hra
   by_cases hcz : cr = 0
   ·subst hcz
    obtain ⟨es, hR, hn, hl⟩ := PL_r.out rfl
    have HR := hI hR
    have HLL := hI hl
    clear hR hl PL_r
    have hgw := hI (fun g h => (HR.out.1.lt g h).2)
    go_wp2_with fail
    clear f0 f1 f2 f3 f4 f5 f6 f7 f8 fz
    refine is_alt XR.out _ ?_ ?_
    ·intro _ _ _ _ _
     go_wp2_with fail
     refine (must_any XR.out _).mono ?_
     rintro e w20 ⟨rfl, hk, c20, m20, hx, ha⟩
     have z20 : wr.heap.size ≤ w20.heap.size := hk.size
     have KK := hI hk
     have K20 : Hid (Kq br w w20) := KR.out.trans hk
     have X20 := hI hx
     have A20 := hI ha
     clear hk hx ha
     have BR_20 := hI (KK.out.get (by omega) BR_r.out)
     have BB_20 := hI (KK.out.get (by omega) BB_r.out)
     have PL_20 := hI (Rw.to HR.out (fun k o hb h => KK.out.get (by omega) h))
     clear BR_r BB_r HR
     clear KK
     go_upto_region 38 with fail
     obtain ⟨p0R, p1R, p2R, p3R, p4R, p5R, p6R, pfR, plR⟩ := bx BR_20.out
     obtain ⟨p0B, p1B, p2B, p3B, p4B, p5B, p6B, pfB, plB⟩ := bx BB_20.out
     go_wp2_with fail
     refine bodyPost_ret (v := .agg #[.int .i64 2, .int .i64 aa, .bool false, .string ⟨#[]⟩, .slice none 0 0, .slice sa sl sc, .slice none 0 0]) (by simp [results, Tryz.results57, go_sem, *]) rfl (st_close (r := w.heap.size) hlt K20.out X20.out (adv_le hm3 hmr A20.out) (Nat.le_refl _) fun hc => ?_)
     obtain ⟨hc0, hm20⟩ := A20.out.2 hc
     have hR := PL_20.out
     have hl := HLL.out
     refine ⟨_, ps_block aa (hR.sub fun b hb => by show _ ∧ _; omega), ?_⟩
     simp only [lnA, lnC, lnN]
     omega
    go_wp2_with fail
    have HL : Hid (meas 0 mr < M) := by
     have hm1 := hM1.out
     show _ < _
     unfold meas
     split <;> omega
    refine (HI.out _ HL.out br s 0 mr wr XR.out (Nat.le_refl _)).mono ?_
    rintro e w5 ⟨k5, a5, lt5, nm5, xa5, xl5, xc5, sa5, sl5, sc5, aa5, al5, ac5, rfl, hk, c5, m5, hx, ha, hp⟩
    have z5 : wr.heap.size ≤ w5.heap.size := hk.size
    have KK := hI hk
    have K5 : Hid (Kq br w w5) := KR.out.trans hk
    have X5 := hI hx
    have A5 := hI ha
    have P5_5 := hI (ps_born hp)
    clear hk hx ha hp
    have BR_5 := hI (KK.out.get (by omega) BR_r.out)
    have BB_5 := hI (KK.out.get (by omega) BB_r.out)
    have PL_5 := hI (Rw.to HR.out (fun k o hb h => KK.out.get (by omega) h))
    clear BR_r BB_r HR
    clear KK
    clear HL
    go_upto_region 17 with fail
    generalize hWW : w5.alloc (.cells _ 93) = w6
    obtain ⟨zz, bb, oo, kk⟩ := one_box hWW
    have z6 : w5.heap.size < w6.heap.size := by omega
    have K6 : Hid (Kq br w w6) := K5.out.trans (kk br).out
    have X6 : Hid (Sx br s w6 c5 m5) := X5.out.to (oo br X5.out.lt)
    clear X5 K5
    have BR_6 := hI ((oo _ (heap_lt BR_5.out)).trans BR_5.out)
    have BB_6 := hI ((oo _ (heap_lt BB_5.out)).trans BB_5.out)
    have PL_6 := hI (Rw.to PL_5.out (fun k o hb h => (oo k (heap_lt h)).trans h))
    have P5_6 := hI (ps_to P5_5.out (fun k o hb h => (oo k (heap_lt h)).trans h))
    clear BR_5 BB_5 PL_5 P5_5
    have BT_6 : Hid (w6.heap[w5.heap.size]? = some (.cells #[.int .i64 k5, .int .i64 a5, .bool lt5, .string nm5, .slice xa5 xl5 xc5, .slice sa5 sl5 sc5, .slice aa5 al5 ac5] 93)) := bb
    clear hWW zz oo kk bb
    by_cases hes : es = []
    ·subst hes
     have hv := PL_6.out.2.2.2 rfl
     simp only [Value.slice.injEq] at hv
     obtain ⟨rfl, rfl, rfl⟩ := hv
     obtain ⟨p0B, p1B, p2B, p3B, p4B, p5B, p6B, pfB, plB⟩ := bx BB_6.out
     obtain ⟨p0T, p1T, p2T, p3T, p4T, p5T, p6T, pfT, plT⟩ := bx BT_6.out
     obtain ⟨i5, hi, hzz, hsz, hby⟩ := info93'
     have HI5 := hI hi
     have HZ5 := hI hzz
     have HS5 := hI hsz
     have HB5 := hI hby
     clear hi hzz hsz hby
     go_wp2_with (at_builtin; refine wpList_append_lies _ rfl (.tmp 62) (.tmp 64) 90 rfl (w4.heap.size) 93 i5 _ 7 112 Tryz.underlying90 HI5.out HZ5.out HS5.out HB5.out rfl (by decide) (.slice none 0 0) (0) _ rfl (Rw.alloc (PL_6.out) _).1 ⟨w6.heap.size, 0, none⟩ 1 1 [.int .i64 k5, .int .i64 a5, .bool lt5, .string nm5, .slice xa5 xl5 xc5, .slice sa5 sl5 sc5, .slice aa5 al5 ac5] rfl rfl (new_cells _ _ _) seven_oneS (by decide) (by decide) (by decide) (by simp; omega) _ rfl ?_; intro g7 cap7 w67 hownX hgrowX hatX hltX; have eX := (hgrowX.block ((w.heap.size + 1)) (by have := heap_lt BB_6.out; simp; omega) (by simp [Value.ownBlock])).trans ((Below.heap_alloc _ _ _ (heap_lt BB_6.out)).trans BB_6.out); have OB := hI hownX; have GB := hI hgrowX; have TB := hI hatX; clear hownX hgrowX hatX; obtain ⟨p0B, p1B, p2B, p3B, p4B, p5B, p6B, pfB, plX⟩ := bx eX; clear eX)
     generalize hS : w67.setCell ⟨(w.heap.size + 1), 5, none⟩ _ = w7
     clear p0B p1B p2B p3B p4B p5B p6B pfB plB p0T p1T p2T p3T p4T p5T p6T pfT plT plX HI5 HZ5 HS5 HB5
     obtain ⟨bb, kk, ⟨sg7, sz7⟩, rr⟩ := row_app (S := fun b => w4.heap.size ≤ b) (xr := (w.heap.size + 1)) (PL_6.out) OB.out GB.out TB.out rfl hltX BB_6.out (by simp [Value.ownBlock]) (.inl rfl) (by show w4.heap.size ≤ _; simp only [World.size_alloc]; omega) hS
     have sg7 : w4.heap.size ≤ g7 := sg7
     have z7 : w6.heap.size ≤ w7.heap.size := kk.size
     have K7 : Hid (Kq br w w7) := K6.out.comp2 kk (by omega) (by omega)
     have X7 : Hid (Sx br s w7 c5 m5) := kk.sx (by omega) (by omega) X6.out
     have KK := hI kk
     have RR := hI rr
     have BB_7 : Hid (w7.heap[(w.heap.size + 1)]? = some (.cells #[.int .i64 2, .int .i64 aa, .bool false, .string ⟨#[]⟩, .slice none 0 0, .slice (some ⟨g7, 0, none⟩) (1) cap7, .slice none 0 0] 93)) := bb
     clear hS bb kk rr hltX OB GB TB X6 K6
     have PM_7 : Hid (c5 = 0 → ∃ xs : List (List Value × List UInt8), Rw elS (fun b => w4.heap.size ≤ b) (w4.heap.size) w7 (.slice (some ⟨g7, 0, none⟩) (1) cap7) xs ∧ (xs.length + m5 ≤ m3 ∧ (spaced (xs.map (fun x : List Value × List UInt8 => x.2))).length ≤ 64 * (m3 - m5))) := by
      intro hc
      obtain ⟨t, hp, hl⟩ := P5_6.out hc
      have hm := (A5.out.2 hc).2
      have hl0 := HLL.out
      refine ⟨[] ++ [([.int .i64 k5, .int .i64 a5, .bool lt5, .string nm5, .slice xa5 xl5 xc5, .slice sa5 sl5 sc5, .slice aa5 al5 ac5], t)], RR.out [([.int .i64 k5, .int .i64 a5, .bool lt5, .string nm5, .slice xa5 xl5 xc5, .slice sa5 sl5 sc5, .slice aa5 al5 ac5], t)] (by simp) (by simp [elS]) rfl ?_ (by show ¬ (w4.heap.size ≤ _); omega), ?_⟩
      ·intro y hy
       rw [List.mem_singleton] at hy
       subst hy
       refine elS.mono ?_ (fun _ _ _ _ hu => hu) hp
       intro b hb
       have h1 : wr.heap.size ≤ b ∧ b < w5.heap.size := hb
       refine ⟨by show w4.heap.size ≤ b; omega, ?_⟩
       simp [Value.ownBlock]
      ·refine ⟨by simp; omega, ?_⟩
       simp [spaced]
       omega
     clear BT_6
     clear PL_6
     clear P5_6
     have BR_7 := hI (KK.out.get (by omega) (by omega) BR_6.out)
     clear BR_6
     clear KK RR BB_6
     go_roundg (meas c5 m5)
     case measure => have := meas_next A5.out; omega
     case rel => exact ⟨c5, m5, _, _, _, rfl, X7, K7, BR_7, BB_7, by omega, PM_7, by have := A5.out.1; omega, (fun _ => trivial : Hid _)⟩
    ·obtain ⟨g0, rfl, rfl, hgL, hgS, hg8⟩ := PL_6.out.form (List.length_pos_iff.2 hes)
     have hgS : w4.heap.size ≤ g0 := hgS
     have hgr : g0 < wr.heap.size := hgw.out g0 rfl
     obtain ⟨p0B, p1B, p2B, p3B, p4B, p5B, p6B, pfB, plB⟩ := bx BB_6.out
     obtain ⟨p0T, p1T, p2T, p3T, p4T, p5T, p6T, pfT, plT⟩ := bx BT_6.out
     obtain ⟨i5, hi, hzz, hsz, hby⟩ := info93'
     have HI5 := hI hi
     have HZ5 := hI hzz
     have HS5 := hI hsz
     have HB5 := hI hby
     clear hi hzz hsz hby
     go_wp2_with (at_builtin; refine wpList_append_lies _ rfl (.tmp 62) (.tmp 64) 90 rfl (w4.heap.size) 93 i5 _ 7 112 Tryz.underlying90 HI5.out HZ5.out HS5.out HB5.out rfl (by decide) (.slice (some ⟨g0, 0, none⟩) es.length sc) (es.length) _ rfl (Rw.alloc (PL_6.out) _).1 ⟨w6.heap.size, 0, none⟩ 1 1 [.int .i64 k5, .int .i64 a5, .bool lt5, .string nm5, .slice xa5 xl5 xc5, .slice sa5 sl5 sc5, .slice aa5 al5 ac5] rfl rfl (new_cells _ _ _) seven_oneS (by decide) (by simp only [maxLen]; omega) (by omega) (by simp; omega) _ rfl ?_; intro g7 cap7 w67 hownX hgrowX hatX hltX; have eX := (hgrowX.block ((w.heap.size + 1)) (by have := heap_lt BB_6.out; simp; omega) (by simp [Value.ownBlock]; omega)).trans ((Below.heap_alloc _ _ _ (heap_lt BB_6.out)).trans BB_6.out); have OB := hI hownX; have GB := hI hgrowX; have TB := hI hatX; clear hownX hgrowX hatX; obtain ⟨p0B, p1B, p2B, p3B, p4B, p5B, p6B, pfB, plX⟩ := bx eX; clear eX)
     generalize hS : w67.setCell ⟨(w.heap.size + 1), 5, none⟩ _ = w7
     clear p0B p1B p2B p3B p4B p5B p6B pfB plB p0T p1T p2T p3T p4T p5T p6T pfT plT plX HI5 HZ5 HS5 HB5
     obtain ⟨bb, kk, ⟨sg7, sz7⟩, rr⟩ := row_app (S := fun b => w4.heap.size ≤ b) (xr := g0) (PL_6.out) OB.out GB.out TB.out rfl hltX BB_6.out (by simp [Value.ownBlock]; omega) (.inr rfl) (by show w4.heap.size ≤ _; simp only [World.size_alloc]; omega) hS
     have sg7 : w4.heap.size ≤ g7 := sg7
     have z7 : w6.heap.size ≤ w7.heap.size := kk.size
     have K7 : Hid (Kq br w w7) := K6.out.comp2 kk (by omega) (by omega)
     have X7 : Hid (Sx br s w7 c5 m5) := kk.sx (by omega) (by omega) X6.out
     have KK := hI kk
     have RR := hI rr
     have BB_7 : Hid (w7.heap[(w.heap.size + 1)]? = some (.cells #[.int .i64 2, .int .i64 aa, .bool false, .string ⟨#[]⟩, .slice none 0 0, .slice (some ⟨g7, 0, none⟩) (es.length + 1) cap7, .slice none 0 0] 93)) := bb
     clear hS bb kk rr hltX OB GB TB X6 K6
     have PM_7 : Hid (c5 = 0 → ∃ xs : List (List Value × List UInt8), Rw elS (fun b => w4.heap.size ≤ b) (w4.heap.size) w7 (.slice (some ⟨g7, 0, none⟩) (es.length + 1) cap7) xs ∧ (xs.length + m5 ≤ m3 ∧ (spaced (xs.map (fun x : List Value × List UInt8 => x.2))).length ≤ 64 * (m3 - m5))) := by
      intro hc
      obtain ⟨t, hp, hl⟩ := P5_6.out hc
      have hm := (A5.out.2 hc).2
      have hl0 := HLL.out
      refine ⟨es ++ [([.int .i64 k5, .int .i64 a5, .bool lt5, .string nm5, .slice xa5 xl5 xc5, .slice sa5 sl5 sc5, .slice aa5 al5 ac5], t)], RR.out [([.int .i64 k5, .int .i64 a5, .bool lt5, .string nm5, .slice xa5 xl5 xc5, .slice sa5 sl5 sc5, .slice aa5 al5 ac5], t)] (by simp) (by simp [elS]) rfl ?_ (by show ¬ (w4.heap.size ≤ _); omega), ?_⟩
      ·intro y hy
       rw [List.mem_singleton] at hy
       subst hy
       refine elS.mono ?_ (fun _ _ _ _ hu => hu) hp
       intro b hb
       have h1 : wr.heap.size ≤ b ∧ b < w5.heap.size := hb
       refine ⟨by show w4.heap.size ≤ b; omega, ?_⟩
       simp [Value.ownBlock]
       omega
      ·rw [lnA, List.map_append, List.map_cons, List.map_nil, spaced_snoc]
       simp only [lnC, lnN]
       exact ⟨by omega, by omega⟩
     clear BT_6
     clear PL_6
     clear P5_6
     have BR_7 := hI (KK.out.get (by omega) (by omega) BR_6.out)
     clear BR_6
     clear KK RR BB_6
     go_roundg (meas c5 m5)
     case measure => have := meas_next A5.out; omega
     case rel => exact ⟨c5, m5, _, _, _, rfl, X7, K7, BR_7, BB_7, by omega, PM_7, by have := A5.out.1; omega, (fun _ => trivial : Hid _)⟩
   ·have g1 : (cr == 0) = false := beq_eq_false_iff_ne.2 hcz
    go_wp2_with fail
    clear f0 f1 f2 f3 f4 f5 f6 f7 f8 fz g1
    have hcn := hcz
    refine (must_any XR.out _).mono ?_
    rintro e w20 ⟨rfl, hk, c20, m20, hx, ha⟩
    have z20 : wr.heap.size ≤ w20.heap.size := hk.size
    have KK := hI hk
    have K20 : Hid (Kq br w w20) := KR.out.trans hk
    have X20 := hI hx
    have A20 := hI ha
    clear hk hx ha
    have BR_20 := hI (KK.out.get (by omega) BR_r.out)
    have BB_20 := hI (KK.out.get (by omega) BB_r.out)
    have PL_20 := hI (rw_to PL_r.out (fun k o hb h => KK.out.get (by omega) h))
    clear BR_r BB_r PL_r
    clear KK
    go_upto_region 38 with fail
    obtain ⟨p0R, p1R, p2R, p3R, p4R, p5R, p6R, pfR, plR⟩ := bx BR_20.out
    obtain ⟨p0B, p1B, p2B, p3B, p4B, p5B, p6B, pfB, plB⟩ := bx BB_20.out
    go_wp2_with fail
    refine bodyPost_ret (v := .agg #[.int .i64 2, .int .i64 aa, .bool false, .string ⟨#[]⟩, .slice none 0 0, .slice sa sl sc, .slice none 0 0]) (by simp [results, Tryz.results57, go_sem, *]) rfl (st_close (r := w.heap.size) hlt K20.out X20.out (adv_le hm3 hmr A20.out) (Nat.le_refl _) fun hc => ?_)
    obtain ⟨hc0, hm20⟩ := A20.out.2 hc
    exact absurd hc0 hcn
 go_wp2_with fail
 refine accept_alt X0.out _ ?_ ?_
 ·intro hc0 m3 w3 hm3 hk hx
  subst hc0
  have z3 : w0.heap.size ≤ w3.heap.size := hk.size
  have KK := hI hk
  have K3 : Hid (Kq br w w3) := K0.out.trans hk
  have X3 := hI hx
  clear hk hx X0 K0
  have BR_3 := hI (KK.out.get (by omega) BR_0.out)
  have BB_3 := hI (KK.out.get (by omega) BB_0.out)
  clear BR_0 BB_0
  clear KK
  have hM1 : Hid (m + 1 ≤ M) := by have := HM.out; simp only [meas, if_pos] at this; exact this
  clear HM
  have hm60 : m3 ≤ 60001 := X3.out.le
  clear HC
  obtain ⟨p0B, p1B, p2B, p3B, p4B, p5B, p6B, pfB, plB⟩ := bx BB_3.out
  go_wp2_with fail
  generalize hS : w3.setCell ⟨(w.heap.size + 1), 0, none⟩ _ = w4
  clear p0B p1B p2B p3B p4B p5B p6B pfB plB
  obtain ⟨bb, zz, oo, kk, xx⟩ := set_box hS BB_3.out
  have z4 : w3.heap.size ≤ w4.heap.size := by omega
  have K4 : Hid (Kq br w w4) := kk br w K3.out (by omega)
  have X4 : Hid (Sx br s w4 0 m3) := xx br s 0 m3 X3.out (by omega)
  have BB_4 : Hid (w4.heap[(w.heap.size + 1)]? = some (.cells #[.int .i64 3, .int .i64 aa, .bool false, .string ⟨#[]⟩, .slice none 0 0, .slice none 0 0, .slice none 0 0] 93)) := bb
  clear X3 K3 BB_3
  have BR_4 := hI ((oo _ (by omega)).trans BR_3.out)
  clear BR_3
  clear hS bb zz oo kk xx
  refine (must_any X4.out _).mono ?_
  rintro e w5 ⟨rfl, hk, c5, m5, hx, ha⟩
  have z5 : w4.heap.size ≤ w5.heap.size := hk.size
  have KK := hI hk
  have K5 : Hid (Kq br w w5) := K4.out.trans hk
  have X5 := hI hx
  have A5 := hI ha
  clear hk hx ha
  have BR_5 := hI (KK.out.get (by omega) BR_4.out)
  have BB_5 := hI (KK.out.get (by omega) BB_4.out)
  clear BR_4 BB_4
  clear KK
  go_wp2_with fail
  refine (expr_read X5.out).mono ?_
  rintro e w6 ⟨k6, a6, op6, wd6, n6, nm6, sa6, sl6, sc6, rfl, hk, c6, m6, hx, ha, hp⟩
  have z6 : w5.heap.size ≤ w6.heap.size := hk.size
  have KK := hI hk
  have K6 : Hid (Kq br w w6) := K5.out.trans hk
  have X6 := hI hx
  have A6 := hI ha
  have P6_6 := hI (pe_born hp)
  clear hk hx ha hp
  have BR_6 := hI (KK.out.get (by omega) BR_5.out)
  have BB_6 := hI (KK.out.get (by omega) BB_5.out)
  clear BR_5 BB_5
  clear KK
  go_wp2_with fail
  generalize hWW : w6.alloc (.cells _ 55) = w7
  obtain ⟨zz, bb, oo, kk⟩ := one_box hWW
  have z7 : w6.heap.size < w7.heap.size := by omega
  have K7 : Hid (Kq br w w7) := K6.out.trans (kk br).out
  have X7 : Hid (Sx br s w7 c6 m6) := X6.out.to (oo br X6.out.lt)
  clear X6 K6
  have BR_7 := hI ((oo _ (heap_lt BR_6.out)).trans BR_6.out)
  have BB_7 := hI ((oo _ (heap_lt BB_6.out)).trans BB_6.out)
  have P6_7 := hI (pe_to P6_6.out (fun k o hb h => (oo k (heap_lt h)).trans h))
  clear BR_6 BB_6 P6_6
  have BE_7 : Hid (w7.heap[w6.heap.size]? = some (.cells #[.int .i64 k6, .int .i64 a6, .int .i64 op6, .int .i64 wd6, .int .u64 n6, .string nm6, .slice sa6 sl6 sc6] 55)) := bb
  clear hWW zz oo kk bb
  refine (must_any X7.out _).mono ?_
  rintro e w8 ⟨rfl, hk, c8, m8, hx, ha⟩
  have z8 : w7.heap.size ≤ w8.heap.size := hk.size
  have KK := hI hk
  have K8 : Hid (Kq br w w8) := K7.out.trans hk
  have X8 := hI hx
  have A8 := hI ha
  clear hk hx ha
  have BR_8 := hI (KK.out.get (by omega) BR_7.out)
  have BB_8 := hI (KK.out.get (by omega) BB_7.out)
  have BE_8 := hI (KK.out.get (by omega) BE_7.out)
  have P6_8 := hI (pe_to P6_7.out (fun k o hb h => KK.out.get (by omega) h))
  clear BR_7 BB_7 BE_7 P6_7
  clear KK
  obtain ⟨p0B, p1B, p2B, p3B, p4B, p5B, p6B, pfB, plB⟩ := bx BB_8.out
  obtain ⟨p0E, p1E, p2E, p3E, p4E, p5E, p6E, pfE, plE⟩ := bx BE_8.out
  obtain ⟨i5, hi, hzz, hsz, hby⟩ := info55'
  have HI5 := hI hi
  have HZ5 := hI hzz
  have HS5 := hI hsz
  have HB5 := hI hby
  clear hi hzz hsz hby
  go_wp2_with (at_builtin; refine wpList_append_lies _ rfl (.tmp 80) (.tmp 82) 53 rfl (w4.heap.size) 55 i5 _ 7 80 Tryz.underlying53 HI5.out HZ5.out HS5.out HB5.out rfl (by decide) (.slice none 0 0) (0) _ rfl (Rw.alloc (Rw.nil elE (fun b => w4.heap.size ≤ b ∧ b ≠ w6.heap.size) w4.heap.size w8) _).1 ⟨w8.heap.size, 0, none⟩ 1 1 [.int .i64 k6, .int .i64 a6, .int .i64 op6, .int .i64 wd6, .int .u64 n6, .string nm6, .slice sa6 sl6 sc6] rfl rfl (new_cells _ _ _) seven_one (by decide) (by decide) (by decide) (by simp; omega) _ rfl ?_; intro g9 cap9 w69 hownX hgrowX hatX hltX; have eX := (hgrowX.block ((w.heap.size + 1)) (by have := heap_lt BB_8.out; simp; omega) (by simp [Value.ownBlock])).trans ((Below.heap_alloc _ _ _ (heap_lt BB_8.out)).trans BB_8.out); have OB := hI hownX; have GB := hI hgrowX; have TB := hI hatX; clear hownX hgrowX hatX; obtain ⟨p0B, p1B, p2B, p3B, p4B, p5B, p6B, pfB, plX⟩ := bx eX; clear eX)
  generalize hS : w69.setCell ⟨(w.heap.size + 1), 4, none⟩ _ = w9
  clear p0B p1B p2B p3B p4B p5B p6B pfB plB p0E p1E p2E p3E p4E p5E p6E pfE plE plX HI5 HZ5 HS5 HB5
  obtain ⟨bb, kk, ⟨sg9, sz9⟩, rr⟩ := row_app (S := fun b => w4.heap.size ≤ b ∧ b ≠ w6.heap.size) (xr := (w.heap.size + 1)) (Rw.nil elE (fun b => w4.heap.size ≤ b ∧ b ≠ w6.heap.size) w4.heap.size w8) OB.out GB.out TB.out rfl hltX BB_8.out (by simp [Value.ownBlock]) (.inl rfl) (by show w4.heap.size ≤ _ ∧ _ ≠ w6.heap.size; simp only [World.size_alloc]; omega) hS
  have sg9 : w4.heap.size ≤ g9 ∧ g9 ≠ w6.heap.size := sg9
  have z9 : w8.heap.size ≤ w9.heap.size := kk.size
  have K9 : Hid (Kq br w w9) := K8.out.comp2 kk (by omega) (by omega)
  have X9 : Hid (Sx br s w9 c8 m8) := kk.sx (by omega) (by omega) X8.out
  have KK := hI kk
  have RR := hI rr
  have BB_9 : Hid (w9.heap[(w.heap.size + 1)]? = some (.cells #[.int .i64 3, .int .i64 aa, .bool false, .string ⟨#[]⟩, .slice (some ⟨g9, 0, none⟩) (1) cap9, .slice none 0 0, .slice none 0 0] 93)) := bb
  clear hS bb kk rr hltX OB GB TB X8 K8
  have PX_9 : Hid (c6 = 0 → ∃ xs : List (Ele), Rw elE (fun b => w4.heap.size ≤ b ∧ b ≠ w6.heap.size) (w4.heap.size) w9 (.slice (some ⟨g9, 0, none⟩) (1) cap9) xs ∧ (∃ t, xs = [(k6, [.int .i64 k6, .int .i64 a6, .int .i64 op6, .int .i64 wd6, .int .u64 n6, .string nm6, .slice sa6 sl6 sc6], t)] ∧ t.length ≤ 64 * (m5 - m6))) := by
   intro hc
   obtain ⟨t, hp, hl⟩ := P6_8.out hc
   refine ⟨[(k6, [.int .i64 k6, .int .i64 a6, .int .i64 op6, .int .i64 wd6, .int .u64 n6, .string nm6, .slice sa6 sl6 sc6], t)], RR.out [(k6, [.int .i64 k6, .int .i64 a6, .int .i64 op6, .int .i64 wd6, .int .u64 n6, .string nm6, .slice sa6 sl6 sc6], t)] (by simp) (by simp [elE]) rfl ?_ (by show ¬ (w4.heap.size ≤ _ ∧ _ ≠ w6.heap.size); omega), t, rfl, hl⟩
   intro y hy
   rw [List.mem_singleton] at hy
   subst hy
   refine elE.mono ?_ (fun _ _ _ _ hu => hu) hp
   intro b hb
   have h1 : w5.heap.size ≤ b ∧ b < w6.heap.size := hb
   exact ⟨by show w4.heap.size ≤ b ∧ b ≠ w6.heap.size; omega, by simp [Value.ownBlock]⟩
  clear BE_8
  clear P6_8
  have BR_9 := hI (KK.out.get (by omega) (by omega) BR_8.out)
  clear BR_8
  clear KK RR BB_8
  have PX_9b := hI (rw_born PX_9.out)
  clear PX_9
  have HL : Hid (meas c8 m8 < M) := by
   have hA5 := A5.out.1
   have hA6 := A6.out.1
   have hA8 := A8.out.1
   have hm1 := hM1.out
   show _ < _
   unfold meas
   split <;> omega
  refine (HI.out _ HL.out br s c8 m8 w9 X9.out (Nat.le_refl _)).mono ?_
  rintro e w10 ⟨k10, a10, lt10, nm10, xa10, xl10, xc10, sa10, sl10, sc10, aa10, al10, ac10, rfl, hk, c10, m10, hx, ha, hp⟩
  have z10 : w9.heap.size ≤ w10.heap.size := hk.size
  have KK := hI hk
  have K10 : Hid (Kq br w w10) := K9.out.trans hk
  have X10 := hI hx
  have A10 := hI ha
  have P10_10 := hI (ps_born hp)
  clear hk hx ha hp
  have BR_10 := hI (KK.out.get (by omega) BR_9.out)
  have BB_10 := hI (KK.out.get (by omega) BB_9.out)
  have PX_10 := hI (rw_to PX_9b.out (fun k o hb h => KK.out.get (by omega) h))
  clear BR_9 BB_9 PX_9b
  clear KK
  clear HL
  go_upto_region 26 with fail
  generalize hWW : w10.alloc (.cells _ 93) = w11
  obtain ⟨zz, bb, oo, kk⟩ := one_box hWW
  have z11 : w10.heap.size < w11.heap.size := by omega
  have K11 : Hid (Kq br w w11) := K10.out.trans (kk br).out
  have X11 : Hid (Sx br s w11 c10 m10) := X10.out.to (oo br X10.out.lt)
  clear X10 K10
  have BR_11 := hI ((oo _ (heap_lt BR_10.out)).trans BR_10.out)
  have BB_11 := hI ((oo _ (heap_lt BB_10.out)).trans BB_10.out)
  have PX_11 := hI (rw_to PX_10.out (fun k o hb h => (oo k (heap_lt h)).trans h))
  have P10_11 := hI (ps_to P10_10.out (fun k o hb h => (oo k (heap_lt h)).trans h))
  clear BR_10 BB_10 PX_10 P10_10
  have BT_11 : Hid (w11.heap[w10.heap.size]? = some (.cells #[.int .i64 k10, .int .i64 a10, .bool lt10, .string nm10, .slice xa10 xl10 xc10, .slice sa10 sl10 sc10, .slice aa10 al10 ac10] 93)) := bb
  clear hWW zz oo kk bb
  obtain ⟨p0B, p1B, p2B, p3B, p4B, p5B, p6B, pfB, plB⟩ := bx BB_11.out
  obtain ⟨p0T, p1T, p2T, p3T, p4T, p5T, p6T, pfT, plT⟩ := bx BT_11.out
  obtain ⟨i5, hi, hzz, hsz, hby⟩ := info93'
  have HI5 := hI hi
  have HZ5 := hI hzz
  have HS5 := hI hsz
  have HB5 := hI hby
  clear hi hzz hsz hby
  go_wp2_with (at_builtin; refine wpList_append_lies _ rfl (.tmp 88) (.tmp 90) 90 rfl (w9.heap.size) 93 i5 _ 7 112 Tryz.underlying90 HI5.out HZ5.out HS5.out HB5.out rfl (by decide) (.slice none 0 0) (0) _ rfl (Rw.alloc (Rw.nil elS (fun b => w9.heap.size ≤ b ∧ b ≠ w10.heap.size) w9.heap.size w11) _).1 ⟨w11.heap.size, 0, none⟩ 1 1 [.int .i64 k10, .int .i64 a10, .bool lt10, .string nm10, .slice xa10 xl10 xc10, .slice sa10 sl10 sc10, .slice aa10 al10 ac10] rfl rfl (new_cells _ _ _) seven_oneS (by decide) (by decide) (by decide) (by simp; omega) _ rfl ?_; intro g12 cap12 w612 hownX hgrowX hatX hltX; have eX := (hgrowX.block ((w.heap.size + 1)) (by have := heap_lt BB_11.out; simp; omega) (by simp [Value.ownBlock])).trans ((Below.heap_alloc _ _ _ (heap_lt BB_11.out)).trans BB_11.out); have OB := hI hownX; have GB := hI hgrowX; have TB := hI hatX; clear hownX hgrowX hatX; obtain ⟨p0B, p1B, p2B, p3B, p4B, p5B, p6B, pfB, plX⟩ := bx eX; clear eX)
  generalize hS : w612.setCell ⟨(w.heap.size + 1), 5, none⟩ _ = w12
  clear p0B p1B p2B p3B p4B p5B p6B pfB plB p0T p1T p2T p3T p4T p5T p6T pfT plT plX HI5 HZ5 HS5 HB5
  obtain ⟨bb, kk, ⟨sg12, sz12⟩, rr⟩ := row_app (S := fun b => w9.heap.size ≤ b ∧ b ≠ w10.heap.size) (xr := (w.heap.size + 1)) (Rw.nil elS (fun b => w9.heap.size ≤ b ∧ b ≠ w10.heap.size) w9.heap.size w11) OB.out GB.out TB.out rfl hltX BB_11.out (by simp [Value.ownBlock]) (.inl rfl) (by show w9.heap.size ≤ _ ∧ _ ≠ w10.heap.size; simp only [World.size_alloc]; omega) hS
  have sg12 : w9.heap.size ≤ g12 ∧ g12 ≠ w10.heap.size := sg12
  have z12 : w11.heap.size ≤ w12.heap.size := kk.size
  have K12 : Hid (Kq br w w12) := K11.out.comp2 kk (by omega) (by omega)
  have X12 : Hid (Sx br s w12 c10 m10) := kk.sx (by omega) (by omega) X11.out
  have KK := hI kk
  have RR := hI rr
  have BB_12 : Hid (w12.heap[(w.heap.size + 1)]? = some (.cells #[.int .i64 3, .int .i64 aa, .bool false, .string ⟨#[]⟩, .slice (some ⟨g9, 0, none⟩) (1) cap9, .slice (some ⟨g12, 0, none⟩) (1) cap12, .slice none 0 0] 93)) := bb
  clear hS bb kk rr hltX OB GB TB X11 K11
  have PS_12 : Hid (c10 = 0 → ∃ xs : List (List Value × List UInt8), Rw elS (fun b => w9.heap.size ≤ b ∧ b ≠ w10.heap.size) (w9.heap.size) w12 (.slice (some ⟨g12, 0, none⟩) (1) cap12) xs ∧ (∃ t, xs = [([.int .i64 k10, .int .i64 a10, .bool lt10, .string nm10, .slice xa10 xl10 xc10, .slice sa10 sl10 sc10, .slice aa10 al10 ac10], t)] ∧ t.length + 2 ≤ 64 * (m8 - m10))) := by
   intro hc
   obtain ⟨t, hp, hl⟩ := P10_11.out hc
   refine ⟨[([.int .i64 k10, .int .i64 a10, .bool lt10, .string nm10, .slice xa10 xl10 xc10, .slice sa10 sl10 sc10, .slice aa10 al10 ac10], t)], RR.out [([.int .i64 k10, .int .i64 a10, .bool lt10, .string nm10, .slice xa10 xl10 xc10, .slice sa10 sl10 sc10, .slice aa10 al10 ac10], t)] (by simp) (by simp [elS]) rfl ?_ (by show ¬ (w9.heap.size ≤ _ ∧ _ ≠ w10.heap.size); omega), t, rfl, hl⟩
   intro y hy
   rw [List.mem_singleton] at hy
   subst hy
   refine elS.mono ?_ (fun _ _ _ _ hu => hu) hp
   intro b hb
   have h1 : w9.heap.size ≤ b ∧ b < w10.heap.size := hb
   exact ⟨by show w9.heap.size ≤ b ∧ b ≠ w10.heap.size; omega, by simp [Value.ownBlock]⟩
  clear P10_11
  have BR_12 := hI (KK.out.get (by omega) (by omega) BR_11.out)
  have BT_12 := hI (KK.out.get (by omega) (by omega) BT_11.out)
  have PX_12 := hI (rw_to PX_11.out (fun k o hb h => KK.out.get (by omega) (by omega) h))
  clear BR_11 BT_11 PX_11
  clear KK RR BB_11
  refine accept_alt X12.out _ ?_ ?_
  ·intro hc0 m13 w13 hm13 hk hx
   subst hc0
   have z13 : w12.heap.size ≤ w13.heap.size := hk.size
   have KK := hI hk
   have K13 : Hid (Kq br w w13) := K12.out.trans hk
   have X13 := hI hx
   clear hk hx X12 K12
   have BR_13 := hI (KK.out.get (by omega) BR_12.out)
   have BB_13 := hI (KK.out.get (by omega) BB_12.out)
   have BT_13 := hI (KK.out.get (by omega) BT_12.out)
   have PX_13 := hI (rw_to PX_12.out (fun k o hb h => KK.out.get (by omega) h))
   have PS_13 := hI (rw_to PS_12.out (fun k o hb h => KK.out.get (by omega) h))
   clear BR_12 BB_12 BT_12 PX_12 PS_12
   clear KK
   obtain ⟨hc8, hm8⟩ := A10.out.2 rfl
   have hP1 := PS_13.out rfl
   obtain ⟨xs, hR, t, rfl, hl⟩ := hP1
   have HR := hI hR
   have HLL := hI hl
   clear hR hl
   clear PS_13
   have HC8 := hI hc8
   have HM8 := hI hm8
   clear hc8 hm8
   go_wp2_with fail
   have HL : Hid (meas 0 m13 < M) := by
    have hA5 := A5.out.1
    have hA6 := A6.out.1
    have hA8 := A8.out.1
    have hA10 := A10.out.1
    have hm1 := hM1.out
    show _ < _
    unfold meas
    split <;> omega
   refine (HI.out _ HL.out br s 0 m13 w13 X13.out (Nat.le_refl _)).mono ?_
   rintro e w14 ⟨k14, a14, lt14, nm14, xa14, xl14, xc14, sa14, sl14, sc14, aa14, al14, ac14, rfl, hk, c14, m14, hx, ha, hp⟩
   have z14 : w13.heap.size ≤ w14.heap.size := hk.size
   have KK := hI hk
   have K14 : Hid (Kq br w w14) := K13.out.trans hk
   have X14 := hI hx
   have A14 := hI ha
   have P14_14 := hI (ps_born hp)
   clear hk hx ha hp
   have BR_14 := hI (KK.out.get (by omega) BR_13.out)
   have BB_14 := hI (KK.out.get (by omega) BB_13.out)
   have BT_14 := hI (KK.out.get (by omega) BT_13.out)
   have PX_14 := hI (rw_to PX_13.out (fun k o hb h => KK.out.get (by omega) h))
   have PS_14 := hI (Rw.to HR.out (fun k o hb h => KK.out.get (by omega) h))
   clear BR_13 BB_13 BT_13 PX_13 HR
   clear KK
   clear HL
   obtain ⟨p0T, p1T, p2T, p3T, p4T, p5T, p6T, pfT, plT⟩ := bx BT_14.out
   go_upto_region 30 with fail
   generalize hS : (((((((w14.setCell ⟨w10.heap.size, 0, none⟩ (.int .i64 k14)).setCell ⟨w10.heap.size, 1, none⟩ (.int .i64 a14)).setCell ⟨w10.heap.size, 2, none⟩ (.bool lt14)).setCell ⟨w10.heap.size, 3, none⟩ (.string nm14)).setCell ⟨w10.heap.size, 4, none⟩ (.slice xa14 xl14 xc14)).setCell ⟨w10.heap.size, 5, none⟩ (.slice sa14 sl14 sc14)).setCell ⟨w10.heap.size, 6, none⟩ (.slice aa14 al14 ac14)) = w15
   clear p0T p1T p2T p3T p4T p5T p6T pfT plT
   have hS2 : set7 w14 (w10.heap.size) (.int .i64 k14) (.int .i64 a14) (.bool lt14) (.string nm14) (.slice xa14 xl14 xc14) (.slice sa14 sl14 sc14) (.slice aa14 al14 ac14) = w15 := hS
   obtain ⟨bb, zz, oo, kk⟩ := box7 hS2 BT_14.out
   have z15 : w14.heap.size ≤ w15.heap.size := by omega
   have K15 : Hid (Kq br w w15) := kk br w K14.out (by omega)
   have X15 : Hid (Sx br s w15 c14 m14) := X14.out.to (oo br (by omega))
   have BT_15 : Hid (w15.heap[w10.heap.size]? = some (.cells #[.int .i64 k14, .int .i64 a14, .bool lt14, .string nm14, .slice xa14 xl14 xc14, .slice sa14 sl14 sc14, .slice aa14 al14 ac14] 93)) := bb
   clear X14 K14 BT_14
   have BR_15 := hI ((oo _ (by omega)).trans BR_14.out)
   have BB_15 := hI ((oo _ (by omega)).trans BB_14.out)
   have PX_15 := hI (rw_to PX_14.out (fun k o hb h => (oo k (by omega)).trans h))
   have PS_15 := hI (Rw.to PS_14.out (fun k o hb h => (oo k (by omega)).trans h))
   have P14_15 := hI (ps_to P14_14.out (fun k o hb h => (oo k (by omega)).trans h))
   clear BR_14 BB_14 PX_14 PS_14 P14_14
   clear hS hS2 bb zz oo kk
   obtain ⟨p0B, p1B, p2B, p3B, p4B, p5B, p6B, pfB, plB⟩ := bx BB_15.out
   obtain ⟨p0T, p1T, p2T, p3T, p4T, p5T, p6T, pfT, plT⟩ := bx BT_15.out
   obtain ⟨i5, hi, hzz, hsz, hby⟩ := info93'
   have HI5 := hI hi
   have HZ5 := hI hzz
   have HS5 := hI hsz
   have HB5 := hI hby
   clear hi hzz hsz hby
   go_upto_region 38 with (at_builtin; refine wpList_append_lies _ rfl (.tmp 99) (.tmp 101) 90 rfl (w9.heap.size) 93 i5 _ 7 112 Tryz.underlying90 HI5.out HZ5.out HS5.out HB5.out rfl (by decide) (.slice (some ⟨g12, 0, none⟩) 1 cap12) (1) _ rfl (Rw.alloc (PS_15.out) _).1 ⟨w15.heap.size, 0, none⟩ 1 1 [.int .i64 k14, .int .i64 a14, .bool lt14, .string nm14, .slice xa14 xl14 xc14, .slice sa14 sl14 sc14, .slice aa14 al14 ac14] rfl rfl (new_cells _ _ _) seven_oneS (by decide) (by decide) (by decide) (by simp; omega) _ rfl ?_; intro g16 cap16 w616 hownX hgrowX hatX hltX; have eX := (hgrowX.block ((w.heap.size + 1)) (by have := heap_lt BB_15.out; simp; omega) (by simp [Value.ownBlock]; omega)).trans ((Below.heap_alloc _ _ _ (heap_lt BB_15.out)).trans BB_15.out); have OB := hI hownX; have GB := hI hgrowX; have TB := hI hatX; clear hownX hgrowX hatX; obtain ⟨p0B, p1B, p2B, p3B, p4B, p5B, p6B, pfB, plX⟩ := bx eX; clear eX)
   generalize hS : w616.setCell ⟨(w.heap.size + 1), 5, none⟩ _ = w16
   clear p0B p1B p2B p3B p4B p5B p6B pfB plB p0T p1T p2T p3T p4T p5T p6T pfT plT plX HI5 HZ5 HS5 HB5
   obtain ⟨bb, kk, ⟨sg16, sz16⟩, rr⟩ := row_app (S := fun b => w9.heap.size ≤ b ∧ b ≠ w10.heap.size) (xr := g12) (PS_15.out) OB.out GB.out TB.out rfl hltX BB_15.out (by simp [Value.ownBlock]; omega) (.inr rfl) (by show w9.heap.size ≤ _ ∧ _ ≠ w10.heap.size; simp only [World.size_alloc]; omega) hS
   have sg16 : w9.heap.size ≤ g16 ∧ g16 ≠ w10.heap.size := sg16
   have z16 : w15.heap.size ≤ w16.heap.size := kk.size
   have K16 : Hid (Kq br w w16) := K15.out.comp2 kk (by omega) (by omega)
   have X16 : Hid (Sx br s w16 c14 m14) := kk.sx (by omega) (by omega) X15.out
   have KK := hI kk
   have RR := hI rr
   have BB_16 : Hid (w16.heap[(w.heap.size + 1)]? = some (.cells #[.int .i64 3, .int .i64 aa, .bool false, .string ⟨#[]⟩, .slice (some ⟨g9, 0, none⟩) (1) cap9, .slice (some ⟨g16, 0, none⟩) (2) cap16, .slice none 0 0] 93)) := bb
   clear hS bb kk rr hltX OB GB TB X15 K15
   have PS2_16 : Hid (c14 = 0 → ∃ xs : List (List Value × List UInt8), Rw elS (fun b => w9.heap.size ≤ b ∧ b ≠ w10.heap.size) (w9.heap.size) w16 (.slice (some ⟨g16, 0, none⟩) (2) cap16) xs ∧ (∃ t2, xs = [([.int .i64 k10, .int .i64 a10, .bool lt10, .string nm10, .slice xa10 xl10 xc10, .slice sa10 sl10 sc10, .slice aa10 al10 ac10], t), ([.int .i64 k14, .int .i64 a14, .bool lt14, .string nm14, .slice xa14 xl14 xc14, .slice sa14 sl14 sc14, .slice aa14 al14 ac14], t2)] ∧ t2.length + 2 ≤ 64 * (m13 - m14))) := by
    intro hc
    obtain ⟨t2, hp, hl⟩ := P14_15.out hc
    refine ⟨[([.int .i64 k10, .int .i64 a10, .bool lt10, .string nm10, .slice xa10 xl10 xc10, .slice sa10 sl10 sc10, .slice aa10 al10 ac10], t)] ++ [([.int .i64 k14, .int .i64 a14, .bool lt14, .string nm14, .slice xa14 xl14 xc14, .slice sa14 sl14 sc14, .slice aa14 al14 ac14], t2)], RR.out [([.int .i64 k14, .int .i64 a14, .bool lt14, .string nm14, .slice xa14 xl14 xc14, .slice sa14 sl14 sc14, .slice aa14 al14 ac14], t2)] (by simp) (by simp [elS]) rfl ?_ (by show ¬ (w9.heap.size ≤ _ ∧ _ ≠ w10.heap.size); omega), t2, rfl, hl⟩
    intro y hy
    rw [List.mem_singleton] at hy
    subst hy
    refine elS.mono ?_ (fun _ _ _ _ hu => hu) hp
    intro b hb
    have h1 : w13.heap.size ≤ b ∧ b < w14.heap.size := hb
    refine ⟨by show w9.heap.size ≤ b ∧ b ≠ w10.heap.size; omega, ?_⟩
    simp [Value.ownBlock]
    omega
   clear BT_15
   clear PS_15
   clear P14_15
   have BR_16 := hI (KK.out.get (by omega) (by omega) BR_15.out)
   have PX_16 := hI (rw_to PX_15.out (fun k o hb h => KK.out.get (by omega) (by omega) h))
   clear BR_15 PX_15
   clear KK RR BB_15
   obtain ⟨p0R, p1R, p2R, p3R, p4R, p5R, p6R, pfR, plR⟩ := bx BR_16.out
   obtain ⟨p0B, p1B, p2B, p3B, p4B, p5B, p6B, pfB, plB⟩ := bx BB_16.out
   go_wp2_with fail
   refine bodyPost_ret (v := .agg #[.int .i64 3, .int .i64 aa, .bool false, .string ⟨#[]⟩, .slice (some ⟨g9, 0, none⟩) (1) cap9, .slice (some ⟨g16, 0, none⟩) (2) cap16, .slice none 0 0]) (by simp [results, Tryz.results57, go_sem, *]) rfl (st_close (r := w.heap.size) hlt K16.out X16.out (Adv.trans (⟨Nat.le_of_lt hm3, fun _ => ⟨rfl, hm3⟩⟩) (Adv.trans (A5.out) (Adv.trans (A6.out) (Adv.trans (A8.out) (Adv.trans (A10.out) (Adv.trans (⟨Nat.le_of_lt hm13, fun _ => ⟨rfl, hm13⟩⟩) (A14.out))))))) (Nat.le_refl _) fun hc => ?_)
   obtain ⟨_, hm14⟩ := A14.out.2 hc
   have hc8 := HC8.out
   have hm8 := HM8.out
   obtain ⟨hc6, hm8a⟩ := A8.out.2 hc8
   obtain ⟨hc5, hm6a⟩ := A6.out.2 hc6
   obtain ⟨_, hm5a⟩ := A5.out.2 hc5
   obtain ⟨x0, hX, tx, rfl, hlx⟩ := PX_16.out hc6
   obtain ⟨s0, hS2, ts, rfl, hls⟩ := PS2_16.out hc
   have hl1 := HLL.out
   refine ⟨_, ps_if aa (hX.sub fun b hb => by show _ ∧ _; omega) (hS2.sub fun b hb => by show _ ∧ _; omega) (Or.inr rfl), ?_⟩
   show ([105, 102, 32, 40] ++ tx ++ [41, 32] ++ t ++ ([32, 101, 108, 115, 101, 32] ++ ts)).length + 2 ≤ _
   simp only [lnA, lnC, lnN]
   omega
  go_upto_region 38 with fail
  obtain ⟨p0R, p1R, p2R, p3R, p4R, p5R, p6R, pfR, plR⟩ := bx BR_12.out
  obtain ⟨p0B, p1B, p2B, p3B, p4B, p5B, p6B, pfB, plB⟩ := bx BB_12.out
  go_wp2_with fail
  refine bodyPost_ret (v := .agg #[.int .i64 3, .int .i64 aa, .bool false, .string ⟨#[]⟩, .slice (some ⟨g9, 0, none⟩) (1) cap9, .slice (some ⟨g12, 0, none⟩) (1) cap12, .slice none 0 0]) (by simp [results, Tryz.results57, go_sem, *]) rfl (st_close (r := w.heap.size) hlt K12.out X12.out (Adv.trans (⟨Nat.le_of_lt hm3, fun _ => ⟨rfl, hm3⟩⟩) (Adv.trans (A5.out) (Adv.trans (A6.out) (Adv.trans (A8.out) (A10.out))))) (Nat.le_refl _) fun hc => ?_)
  obtain ⟨hc8, hm10⟩ := A10.out.2 hc
  obtain ⟨hc6, hm8a⟩ := A8.out.2 hc8
  obtain ⟨hc5, hm6a⟩ := A6.out.2 hc6
  obtain ⟨_, hm5a⟩ := A5.out.2 hc5
  obtain ⟨x0, hX, tx, rfl, hlx⟩ := PX_12.out hc6
  obtain ⟨s0, hS2, ts, rfl, hls⟩ := PS_12.out hc
  refine ⟨_, ps_if aa (hX.sub fun b hb => by show _ ∧ _; omega) (hS2.sub fun b hb => by show _ ∧ _; omega) (Or.inl rfl), ?_⟩
  show ([105, 102, 32, 40] ++ tx ++ [41, 32] ++ ts ++ []).length + 2 ≤ _
  simp only [lnA, lnC, lnN]
  omega
 go_wp2_with fail
 refine accept_alt X0.out _ ?_ ?_
 ·intro hc0 m3 w3 hm3 hk hx
  subst hc0
  have z3 : w0.heap.size ≤ w3.heap.size := hk.size
  have KK := hI hk
  have K3 : Hid (Kq br w w3) := K0.out.trans hk
  have X3 := hI hx
  clear hk hx X0 K0
  have BR_3 := hI (KK.out.get (by omega) BR_0.out)
  have BB_3 := hI (KK.out.get (by omega) BB_0.out)
  clear BR_0 BB_0
  clear KK
  have hM1 : Hid (m + 1 ≤ M) := by have := HM.out; simp only [meas, if_pos] at this; exact this
  clear HM
  have hm60 : m3 ≤ 60001 := X3.out.le
  obtain ⟨p0B, p1B, p2B, p3B, p4B, p5B, p6B, pfB, plB⟩ := bx BB_3.out
  go_wp2_with fail
  have HL : Hid (meas 0 m3 < M) := by
   have hm1 := hM1.out
   show _ < _
   unfold meas
   split <;> omega
  clear p0B p1B p2B p3B p4B p5B p6B pfB plB
  refine (HC.out _ HL.out br s 0 m3 w3 0 aa X3.out (Nat.le_refl _)).mono ?_
  rintro e w4 ⟨k4, a4, lt4, nm4, xa4, xl4, xc4, sa4, sl4, sc4, aa4, al4, ac4, rfl, hk, c4, m4, hx, ha, hp⟩
  have z4 : w3.heap.size ≤ w4.heap.size := hk.size
  have KK := hI hk
  have K4 : Hid (Kq br w w4) := K3.out.trans hk
  have X4 := hI hx
  have A4 := hI ha
  have P4_4 := hI (ps_born hp)
  clear hk hx ha hp
  have BR_4 := hI (KK.out.get (by omega) BR_3.out)
  have BB_4 := hI (KK.out.get (by omega) BB_3.out)
  clear BR_3 BB_3
  clear KK
  obtain ⟨p0R, p1R, p2R, p3R, p4R, p5R, p6R, pfR, plR⟩ := bx BR_4.out
  go_wp2_with fail
  refine bodyPost_ret (v := .agg #[.int .i64 k4, .int .i64 a4, .bool lt4, .string nm4, .slice xa4 xl4 xc4, .slice sa4 sl4 sc4, .slice aa4 al4 ac4]) (by simp [results, Tryz.results57, go_sem, *]) rfl (st_close (r := w.heap.size) hlt K4.out X4.out (Adv.trans (⟨Nat.le_of_lt hm3, fun _ => ⟨rfl, hm3⟩⟩) (A4.out)) (Nat.le_refl _) fun hc => ?_)
  obtain ⟨t, hp, hl⟩ := P4_4.out hc
  exact ⟨t, hp.mono (fun b hb => by show _ ∧ _; omega) (fun _ _ _ _ hu => hu), by omega⟩
 go_wp2_with fail
 refine accept_alt X0.out _ ?_ ?_
 ·intro hc0 m3 w3 hm3 hk hx
  subst hc0
  have z3 : w0.heap.size ≤ w3.heap.size := hk.size
  have KK := hI hk
  have K3 : Hid (Kq br w w3) := K0.out.trans hk
  have X3 := hI hx
  clear hk hx X0 K0
  have BR_3 := hI (KK.out.get (by omega) BR_0.out)
  have BB_3 := hI (KK.out.get (by omega) BB_0.out)
  clear BR_0 BB_0
  clear KK
  have hM1 : Hid (m + 1 ≤ M) := by have := HM.out; simp only [meas, if_pos] at this; exact this
  clear HM
  have hm60 : m3 ≤ 60001 := X3.out.le
  clear HC
  obtain ⟨p0B, p1B, p2B, p3B, p4B, p5B, p6B, pfB, plB⟩ := bx BB_3.out
  go_wp2_with fail
  generalize hS : w3.setCell ⟨(w.heap.size + 1), 0, none⟩ _ = w4
  clear p0B p1B p2B p3B p4B p5B p6B pfB plB
  obtain ⟨bb, zz, oo, kk, xx⟩ := set_box hS BB_3.out
  have z4 : w3.heap.size ≤ w4.heap.size := by omega
  have K4 : Hid (Kq br w w4) := kk br w K3.out (by omega)
  have X4 : Hid (Sx br s w4 0 m3) := xx br s 0 m3 X3.out (by omega)
  have BB_4 : Hid (w4.heap[(w.heap.size + 1)]? = some (.cells #[.int .i64 6, .int .i64 aa, .bool false, .string ⟨#[]⟩, .slice none 0 0, .slice none 0 0, .slice none 0 0] 93)) := bb
  clear X3 K3 BB_3
  have BR_4 := hI ((oo _ (by omega)).trans BR_3.out)
  clear BR_3
  clear hS bb zz oo kk xx
  refine (loop_any br s 0 m3 w4 X4.out).mono ?_
  rintro e w5 ⟨nm5, sa5, sl5, sc5, rfl, hnm5, hk, c5, m5, hx, ha, hp⟩
  have z5 : w4.heap.size ≤ w5.heap.size := hk.size
  have KK := hI hk
  have K5 : Hid (Kq br w w5) := K4.out.trans hk
  have X5 := hI hx
  have A5 := hI ha
  have P5_5 := hI (lp_born hp)
  clear hk hx ha hp
  have BR_5 := hI (KK.out.get (by omega) BR_4.out)
  have BB_5 := hI (KK.out.get (by omega) BB_4.out)
  clear BR_4 BB_4
  clear KK
  obtain ⟨p0B, p1B, p2B, p3B, p4B, p5B, p6B, pfB, plB⟩ := bx BB_5.out
  go_wp2_with fail
  generalize hS : w5.setCell ⟨(w.heap.size + 1), 3, none⟩ _ = w6
  clear p0B p1B p2B p3B p4B p5B p6B pfB plB
  obtain ⟨bb, zz, oo, kk, xx⟩ := set_box hS BB_5.out
  have z6 : w5.heap.size ≤ w6.heap.size := by omega
  have K6 : Hid (Kq br w w6) := kk br w K5.out (by omega)
  have X6 : Hid (Sx br s w6 c5 m5) := xx br s c5 m5 X5.out (by omega)
  have BB_6 : Hid (w6.heap[(w.heap.size + 1)]? = some (.cells #[.int .i64 6, .int .i64 aa, .bool false, .string nm5, .slice none 0 0, .slice none 0 0, .slice none 0 0] 93)) := bb
  clear X5 K5 BB_5
  have BR_6 := hI ((oo _ (by omega)).trans BR_5.out)
  have P5_6 := hI (lp_to P5_5.out (fun k o hb h => (oo k (by omega)).trans h))
  clear BR_5 P5_5
  clear hS bb zz oo kk xx
  generalize hS : w6.setCell ⟨(w.heap.size + 1), 4, none⟩ _ = w7
  obtain ⟨bb, zz, oo, kk, xx⟩ := set_box hS BB_6.out
  have z7 : w6.heap.size ≤ w7.heap.size := by omega
  have K7 : Hid (Kq br w w7) := kk br w K6.out (by omega)
  have X7 : Hid (Sx br s w7 c5 m5) := xx br s c5 m5 X6.out (by omega)
  have BB_7 : Hid (w7.heap[(w.heap.size + 1)]? = some (.cells #[.int .i64 6, .int .i64 aa, .bool false, .string nm5, .slice sa5 sl5 sc5, .slice none 0 0, .slice none 0 0] 93)) := bb
  clear X6 K6 BB_6
  have BR_7 := hI ((oo _ (by omega)).trans BR_6.out)
  have P5_7 := hI (lp_to P5_6.out (fun k o hb h => (oo k (by omega)).trans h))
  clear BR_6 P5_6
  clear hS bb zz oo kk xx
  have HL : Hid (meas c5 m5 < M) := by
   have hA5 := A5.out.1
   have hm1 := hM1.out
   show _ < _
   unfold meas
   split <;> omega
  refine (HI.out _ HL.out br s c5 m5 w7 X7.out (Nat.le_refl _)).mono ?_
  rintro e w8 ⟨k8, a8, lt8, nm8, xa8, xl8, xc8, sa8, sl8, sc8, aa8, al8, ac8, rfl, hk, c8, m8, hx, ha, hp⟩
  have z8 : w7.heap.size ≤ w8.heap.size := hk.size
  have KK := hI hk
  have K8 : Hid (Kq br w w8) := K7.out.trans hk
  have X8 := hI hx
  have A8 := hI ha
  have P8_8 := hI (ps_born hp)
  clear hk hx ha hp
  have BR_8 := hI (KK.out.get (by omega) BR_7.out)
  have BB_8 := hI (KK.out.get (by omega) BB_7.out)
  have P5_8 := hI (lp_to P5_7.out (fun k o hb h => KK.out.get (by omega) h))
  clear BR_7 BB_7 P5_7
  clear KK
  clear HL
  go_upto_region 37 with fail
  generalize hWW : w8.alloc (.cells _ 93) = w9
  obtain ⟨zz, bb, oo, kk⟩ := one_box hWW
  have z9 : w8.heap.size < w9.heap.size := by omega
  have K9 : Hid (Kq br w w9) := K8.out.trans (kk br).out
  have X9 : Hid (Sx br s w9 c8 m8) := X8.out.to (oo br X8.out.lt)
  clear X8 K8
  have BR_9 := hI ((oo _ (heap_lt BR_8.out)).trans BR_8.out)
  have BB_9 := hI ((oo _ (heap_lt BB_8.out)).trans BB_8.out)
  have P5_9 := hI (lp_to P5_8.out (fun k o hb h => (oo k (heap_lt h)).trans h))
  have P8_9 := hI (ps_to P8_8.out (fun k o hb h => (oo k (heap_lt h)).trans h))
  clear BR_8 BB_8 P5_8 P8_8
  have BT_9 : Hid (w9.heap[w8.heap.size]? = some (.cells #[.int .i64 k8, .int .i64 a8, .bool lt8, .string nm8, .slice xa8 xl8 xc8, .slice sa8 sl8 sc8, .slice aa8 al8 ac8] 93)) := bb
  clear hWW zz oo kk bb
  obtain ⟨p0B, p1B, p2B, p3B, p4B, p5B, p6B, pfB, plB⟩ := bx BB_9.out
  obtain ⟨p0T, p1T, p2T, p3T, p4T, p5T, p6T, pfT, plT⟩ := bx BT_9.out
  obtain ⟨i5, hi, hzz, hsz, hby⟩ := info93'
  have HI5 := hI hi
  have HZ5 := hI hzz
  have HS5 := hI hsz
  have HB5 := hI hby
  clear hi hzz hsz hby
  go_upto_region 38 with (at_builtin; refine wpList_append_lies _ rfl (.tmp 124) (.tmp 126) 90 rfl (w7.heap.size) 93 i5 _ 7 112 Tryz.underlying90 HI5.out HZ5.out HS5.out HB5.out rfl (by decide) (.slice none 0 0) (0) _ rfl (Rw.alloc (Rw.nil elS (fun b => w7.heap.size ≤ b ∧ b ≠ w8.heap.size) w7.heap.size w9) _).1 ⟨w9.heap.size, 0, none⟩ 1 1 [.int .i64 k8, .int .i64 a8, .bool lt8, .string nm8, .slice xa8 xl8 xc8, .slice sa8 sl8 sc8, .slice aa8 al8 ac8] rfl rfl (new_cells _ _ _) seven_oneS (by decide) (by decide) (by decide) (by simp; omega) _ rfl ?_; intro g10 cap10 w610 hownX hgrowX hatX hltX; have eX := (hgrowX.block ((w.heap.size + 1)) (by have := heap_lt BB_9.out; simp; omega) (by simp [Value.ownBlock])).trans ((Below.heap_alloc _ _ _ (heap_lt BB_9.out)).trans BB_9.out); have OB := hI hownX; have GB := hI hgrowX; have TB := hI hatX; clear hownX hgrowX hatX; obtain ⟨p0B, p1B, p2B, p3B, p4B, p5B, p6B, pfB, plX⟩ := bx eX; clear eX)
  generalize hS : w610.setCell ⟨(w.heap.size + 1), 5, none⟩ _ = w10
  clear p0B p1B p2B p3B p4B p5B p6B pfB plB p0T p1T p2T p3T p4T p5T p6T pfT plT plX HI5 HZ5 HS5 HB5
  obtain ⟨bb, kk, ⟨sg10, sz10⟩, rr⟩ := row_app (S := fun b => w7.heap.size ≤ b ∧ b ≠ w8.heap.size) (xr := (w.heap.size + 1)) (Rw.nil elS (fun b => w7.heap.size ≤ b ∧ b ≠ w8.heap.size) w7.heap.size w9) OB.out GB.out TB.out rfl hltX BB_9.out (by simp [Value.ownBlock]) (.inl rfl) (by show w7.heap.size ≤ _ ∧ _ ≠ w8.heap.size; simp only [World.size_alloc]; omega) hS
  have sg10 : w7.heap.size ≤ g10 ∧ g10 ≠ w8.heap.size := sg10
  have z10 : w9.heap.size ≤ w10.heap.size := kk.size
  have K10 : Hid (Kq br w w10) := K9.out.comp2 kk (by omega) (by omega)
  have X10 : Hid (Sx br s w10 c8 m8) := kk.sx (by omega) (by omega) X9.out
  have KK := hI kk
  have RR := hI rr
  have BB_10 : Hid (w10.heap[(w.heap.size + 1)]? = some (.cells #[.int .i64 6, .int .i64 aa, .bool false, .string nm5, .slice sa5 sl5 sc5, .slice (some ⟨g10, 0, none⟩) (1) cap10, .slice none 0 0] 93)) := bb
  clear hS bb kk rr hltX OB GB TB X9 K9
  have PS_10 : Hid (c8 = 0 → ∃ xs : List (List Value × List UInt8), Rw elS (fun b => w7.heap.size ≤ b ∧ b ≠ w8.heap.size) (w7.heap.size) w10 (.slice (some ⟨g10, 0, none⟩) (1) cap10) xs ∧ (∃ t, xs = [([.int .i64 k8, .int .i64 a8, .bool lt8, .string nm8, .slice xa8 xl8 xc8, .slice sa8 sl8 sc8, .slice aa8 al8 ac8], t)] ∧ t.length + 2 ≤ 64 * (m5 - m8))) := by
   intro hc
   obtain ⟨t, hp, hl⟩ := P8_9.out hc
   refine ⟨[([.int .i64 k8, .int .i64 a8, .bool lt8, .string nm8, .slice xa8 xl8 xc8, .slice sa8 sl8 sc8, .slice aa8 al8 ac8], t)], RR.out [([.int .i64 k8, .int .i64 a8, .bool lt8, .string nm8, .slice xa8 xl8 xc8, .slice sa8 sl8 sc8, .slice aa8 al8 ac8], t)] (by simp) (by simp [elS]) rfl ?_ (by show ¬ (w7.heap.size ≤ _ ∧ _ ≠ w8.heap.size); omega), t, rfl, hl⟩
   intro y hy
   rw [List.mem_singleton] at hy
   subst hy
   refine elS.mono ?_ (fun _ _ _ _ hu => hu) hp
   intro b hb
   have h1 : w7.heap.size ≤ b ∧ b < w8.heap.size := hb
   exact ⟨by show w7.heap.size ≤ b ∧ b ≠ w8.heap.size; omega, by simp [Value.ownBlock]⟩
  clear BT_9
  clear P8_9
  have BR_10 := hI (KK.out.get (by omega) (by omega) BR_9.out)
  have P5_10 := hI (lp_to P5_9.out (fun k o hb h => KK.out.get (by omega) (by omega) h))
  clear BR_9 P5_9
  clear KK RR BB_9
  obtain ⟨p0R, p1R, p2R, p3R, p4R, p5R, p6R, pfR, plR⟩ := bx BR_10.out
  obtain ⟨p0B, p1B, p2B, p3B, p4B, p5B, p6B, pfB, plB⟩ := bx BB_10.out
  go_wp2_with fail
  refine bodyPost_ret (v := .agg #[.int .i64 6, .int .i64 aa, .bool false, .string nm5, .slice sa5 sl5 sc5, .slice (some ⟨g10, 0, none⟩) (1) cap10, .slice none 0 0]) (by simp [results, Tryz.results57, go_sem, *]) rfl (st_close (r := w.heap.size) hlt K10.out X10.out (Adv.trans (⟨Nat.le_of_lt hm3, fun _ => ⟨rfl, hm3⟩⟩) (Adv.trans (A5.out) (A8.out))) (Nat.le_refl _) fun hc => ?_)
  obtain ⟨hc5, hm8⟩ := A8.out.2 hc
  obtain ⟨_, hm5⟩ := A5.out.2 hc5
  obtain ⟨es, hX, hn, hlx⟩ := P5_10.out hc5
  obtain ⟨s0, hS2, ts, rfl, hls⟩ := PS_10.out hc
  refine ⟨_, ps_for aa nm5 (hX.sub fun b hb => by show _ ∧ _; omega) (hS2.sub fun b hb => by show _ ∧ _; omega) hn, ?_⟩
  match es, hn, hlx with
  | [x, y, z], _, hlx =>
   show (loopTxt nm5.data.toList x.2.2 y.2.2 z.2.2 ++ ts).length + 2 ≤ _
   simp only [loopTxt, List.map_cons, List.map_nil, List.flatten_cons, List.flatten_nil, lnA, lnC, lnN, len_of] at hlx ⊢
   omega
 clear HM HI HC
 obtain ⟨p0B, p1B, p2B, p3B, p4B, p5B, p6B, pfB, plB⟩ := bx BB_0.out
 go_wp2_with fail
 generalize hS : w0.setCell ⟨(w.heap.size + 1), 0, none⟩ _ = w4
 clear p0B p1B p2B p3B p4B p5B p6B pfB plB
 obtain ⟨bb, zz, oo, kk, xx⟩ := set_box hS BB_0.out
 have z4 : w0.heap.size ≤ w4.heap.size := by omega
 have K4 : Hid (Kq br w w4) := kk br w K0.out (by omega)
 have X4 : Hid (Sx br s w4 c m) := xx br s c m X0.out (by omega)
 have BB_4 : Hid (w4.heap[(w.heap.size + 1)]? = some (.cells #[.int .i64 5, .int .i64 aa, .bool false, .string ⟨#[]⟩, .slice none 0 0, .slice none 0 0, .slice none 0 0] 93)) := bb
 clear X0 K0 BB_0
 have BR_4 := hI ((oo _ (by omega)).trans BR_0.out)
 clear BR_0
 clear hS bb zz oo kk xx
 refine (target_read X4.out).mono ?_
 rintro e w5 ⟨k5, a5, op5, wd5, n5, nm5, sa5, sl5, sc5, rfl, hk, c5, m5, hx, ha, hp⟩
 have z5 : w4.heap.size ≤ w5.heap.size := hk.size
 have KK := hI hk
 have K5 : Hid (Kq br w w5) := K4.out.trans hk
 have X5 := hI hx
 have A5 := hI ha
 have P5_5 := hI (pe_born hp)
 clear hk hx ha hp
 have BR_5 := hI (KK.out.get (by omega) BR_4.out)
 have BB_5 := hI (KK.out.get (by omega) BB_4.out)
 clear BR_4 BB_4
 clear KK
 go_wp2_with fail
 generalize hWW : w5.alloc (.cells _ 55) = w6
 obtain ⟨zz, bb, oo, kk⟩ := one_box hWW
 have z6 : w5.heap.size < w6.heap.size := by omega
 have K6 : Hid (Kq br w w6) := K5.out.trans (kk br).out
 have X6 : Hid (Sx br s w6 c5 m5) := X5.out.to (oo br X5.out.lt)
 clear X5 K5
 have BR_6 := hI ((oo _ (heap_lt BR_5.out)).trans BR_5.out)
 have BB_6 := hI ((oo _ (heap_lt BB_5.out)).trans BB_5.out)
 have P5_6 := hI (pe_to P5_5.out (fun k o hb h => (oo k (heap_lt h)).trans h))
 clear BR_5 BB_5 P5_5
 have BT_6 : Hid (w6.heap[w5.heap.size]? = some (.cells #[.int .i64 k5, .int .i64 a5, .int .i64 op5, .int .i64 wd5, .int .u64 n5, .string nm5, .slice sa5 sl5 sc5] 55)) := bb
 clear hWW zz oo kk bb
 refine is_alt X6.out _ ?_ ?_
 ·intro hc0 wdt nt Tt hst
  subst hc0
  have HST := hI hst
  clear hst
  obtain ⟨p0B, p1B, p2B, p3B, p4B, p5B, p6B, pfB, plB⟩ := bx BB_6.out
  go_wp2_with fail
  generalize hS : w6.setCell ⟨(w.heap.size + 1), 2, none⟩ _ = w7
  have HST7 : Hid (St br s w7 0 m5 3 wdt nt Tt) := HST.out.to (by rw [← hS]; exact Below.heap_setCell _ _ _ _ (show br ≠ w.heap.size + 1 by omega))
  clear HST
  clear p0B p1B p2B p3B p4B p5B p6B pfB plB
  obtain ⟨bb, zz, oo, kk, xx⟩ := set_box hS BB_6.out
  have z7 : w6.heap.size ≤ w7.heap.size := by omega
  have K7 : Hid (Kq br w w7) := kk br w K6.out (by omega)
  have X7 : Hid (Sx br s w7 0 m5) := xx br s 0 m5 X6.out (by omega)
  have BB_7 : Hid (w7.heap[(w.heap.size + 1)]? = some (.cells #[.int .i64 5, .int .i64 aa, .bool true, .string ⟨#[]⟩, .slice none 0 0, .slice none 0 0, .slice none 0 0] 93)) := bb
  clear X6 K6 BB_6
  have BR_7 := hI ((oo _ (by omega)).trans BR_6.out)
  have BT_7 := hI ((oo _ (by omega)).trans BT_6.out)
  have P5_7 := hI (pe_to P5_6.out (fun k o hb h => (oo k (by omega)).trans h))
  clear BR_6 BT_6 P5_6
  clear hS bb zz oo kk xx
  refine (step_st HST7.out (by decide) (by decide)).mono ?_
  rintro e w8 ⟨rfl, hk, m8, hm8, hx⟩
  have z8 : w7.heap.size ≤ w8.heap.size := hk.size
  have KK := hI hk
  have K8 : Hid (Kq br w w8) := K7.out.trans hk
  have X8 := hI hx
  clear hk hx
  have BR_8 := hI (KK.out.get (by omega) BR_7.out)
  have BB_8 := hI (KK.out.get (by omega) BB_7.out)
  have BT_8 := hI (KK.out.get (by omega) BT_7.out)
  have P5_8 := hI (pe_to P5_7.out (fun k o hb h => KK.out.get (by omega) h))
  clear BR_7 BB_7 BT_7 P5_7
  clear KK
  clear HST7
  go_wp2_with fail
  refine (expr_read X8.out).mono ?_
  rintro e w9 ⟨k9, a9, op9, wd9, n9, nm9, sa9, sl9, sc9, rfl, hk, c9, m9, hx, ha, hp⟩
  have z9 : w8.heap.size ≤ w9.heap.size := hk.size
  have KK := hI hk
  have K9 : Hid (Kq br w w9) := K8.out.trans hk
  have X9 := hI hx
  have A9 := hI ha
  have P9_9 := hI (pe_born hp)
  clear hk hx ha hp
  have BR_9 := hI (KK.out.get (by omega) BR_8.out)
  have BB_9 := hI (KK.out.get (by omega) BB_8.out)
  have BT_9 := hI (KK.out.get (by omega) BT_8.out)
  have P5_9 := hI (pe_to P5_8.out (fun k o hb h => KK.out.get (by omega) h))
  clear BR_8 BB_8 BT_8 P5_8
  clear KK
  go_upto_region 9 with fail
  generalize hWW : w9.alloc (.cells _ 55) = w10
  obtain ⟨zz, bb, oo, kk⟩ := one_box hWW
  have z10 : w9.heap.size < w10.heap.size := by omega
  have K10 : Hid (Kq br w w10) := K9.out.trans (kk br).out
  have X10 : Hid (Sx br s w10 c9 m9) := X9.out.to (oo br X9.out.lt)
  clear X9 K9
  have BR_10 := hI ((oo _ (heap_lt BR_9.out)).trans BR_9.out)
  have BB_10 := hI ((oo _ (heap_lt BB_9.out)).trans BB_9.out)
  have BT_10 := hI ((oo _ (heap_lt BT_9.out)).trans BT_9.out)
  have P5_10 := hI (pe_to P5_9.out (fun k o hb h => (oo k (heap_lt h)).trans h))
  have P9_10 := hI (pe_to P9_9.out (fun k o hb h => (oo k (heap_lt h)).trans h))
  clear BR_9 BB_9 BT_9 P5_9 P9_9
  have BV_10 : Hid (w10.heap[w9.heap.size]? = some (.cells #[.int .i64 k9, .int .i64 a9, .int .i64 op9, .int .i64 wd9, .int .u64 n9, .string nm9, .slice sa9 sl9 sc9] 55)) := bb
  clear hWW zz oo kk bb
  obtain ⟨p0B, p1B, p2B, p3B, p4B, p5B, p6B, pfB, plB⟩ := bx BB_10.out
  obtain ⟨p0T, p1T, p2T, p3T, p4T, p5T, p6T, pfT, plT⟩ := bx BT_10.out
  obtain ⟨p0V, p1V, p2V, p3V, p4V, p5V, p6V, pfV, plV⟩ := bx BV_10.out
  obtain ⟨i5, hi, hzz, hsz, hby⟩ := info55'
  have HI5 := hI hi
  have HZ5 := hI hzz
  have HS5 := hI hsz
  have HB5 := hI hby
  clear hi hzz hsz hby
  go_wp2_with (at_builtin; refine wpList_append_lies _ rfl (.tmp 32) (.tmp 35) 53 rfl (w4.heap.size) 55 i5 _ 7 80 Tryz.underlying53 HI5.out HZ5.out HS5.out HB5.out rfl (by decide) (.slice none 0 0) (0) _ rfl (Rw.alloc (Rw.nil elE (fun b => w4.heap.size ≤ b ∧ b ≠ w5.heap.size ∧ b ≠ w9.heap.size) w4.heap.size w10) _).1 ⟨w10.heap.size, 0, none⟩ 2 2 [.int .i64 k5, .int .i64 a5, .int .i64 op5, .int .i64 wd5, .int .u64 n5, .string nm5, .slice sa5 sl5 sc5, .int .i64 k9, .int .i64 a9, .int .i64 op9, .int .i64 wd9, .int .u64 n9, .string nm9, .slice sa9 sl9 sc9] rfl rfl (new_cells _ _ _) seven_one2 (by decide) (by decide) (by decide) (by simp; omega) _ rfl ?_; intro g11 cap11 w611 hownX hgrowX hatX hltX; have eX := (hgrowX.block ((w.heap.size + 1)) (by have := heap_lt BB_10.out; simp; omega) (by simp [Value.ownBlock])).trans ((Below.heap_alloc _ _ _ (heap_lt BB_10.out)).trans BB_10.out); have OB := hI hownX; have GB := hI hgrowX; have TB := hI hatX; clear hownX hgrowX hatX; obtain ⟨p0B, p1B, p2B, p3B, p4B, p5B, p6B, pfB, plX⟩ := bx eX; clear eX)
  generalize hS : w611.setCell ⟨(w.heap.size + 1), 4, none⟩ _ = w11
  clear p0B p1B p2B p3B p4B p5B p6B pfB plB p0T p1T p2T p3T p4T p5T p6T pfT plT p0V p1V p2V p3V p4V p5V p6V pfV plV plX HI5 HZ5 HS5 HB5
  obtain ⟨bb, kk, ⟨sg11, sz11⟩, rr⟩ := row_app (S := fun b => w4.heap.size ≤ b ∧ b ≠ w5.heap.size ∧ b ≠ w9.heap.size) (xr := (w.heap.size + 1)) (Rw.nil elE (fun b => w4.heap.size ≤ b ∧ b ≠ w5.heap.size ∧ b ≠ w9.heap.size) w4.heap.size w10) OB.out GB.out TB.out rfl hltX BB_10.out (by simp [Value.ownBlock]) (.inl rfl) (by show w4.heap.size ≤ _ ∧ _ ≠ w5.heap.size ∧ _ ≠ w9.heap.size; simp only [World.size_alloc]; omega) hS
  have sg11 : w4.heap.size ≤ g11 ∧ g11 ≠ w5.heap.size ∧ g11 ≠ w9.heap.size := sg11
  have z11 : w10.heap.size ≤ w11.heap.size := kk.size
  have K11 : Hid (Kq br w w11) := K10.out.comp2 kk (by omega) (by omega)
  have X11 : Hid (Sx br s w11 c9 m9) := kk.sx (by omega) (by omega) X10.out
  have KK := hI kk
  have RR := hI rr
  have BB_11 : Hid (w11.heap[(w.heap.size + 1)]? = some (.cells #[.int .i64 5, .int .i64 aa, .bool true, .string ⟨#[]⟩, .slice (some ⟨g11, 0, none⟩) (2) cap11, .slice none 0 0, .slice none 0 0] 93)) := bb
  clear hS bb kk rr hltX OB GB TB X10 K10
  have PX_11 : Hid (c9 = 0 → ∃ xs : List (Ele), Rw elE (fun b => w4.heap.size ≤ b ∧ b ≠ w5.heap.size ∧ b ≠ w9.heap.size) (w4.heap.size) w11 (.slice (some ⟨g11, 0, none⟩) (2) cap11) xs ∧ (∃ t t2, xs = [(k5, [.int .i64 k5, .int .i64 a5, .int .i64 op5, .int .i64 wd5, .int .u64 n5, .string nm5, .slice sa5 sl5 sc5], t), (k9, [.int .i64 k9, .int .i64 a9, .int .i64 op9, .int .i64 wd9, .int .u64 n9, .string nm9, .slice sa9 sl9 sc9], t2)] ∧ t.length ≤ 64 * (m - m5) ∧ t2.length ≤ 64 * (m8 - m9))) := by
   intro hc
   obtain ⟨hc8, _⟩ := A9.out.2 hc
   obtain ⟨t, hp, hl⟩ := P5_10.out trivial
   obtain ⟨t2, hp2, hl2⟩ := P9_10.out hc
   refine ⟨[(k5, [.int .i64 k5, .int .i64 a5, .int .i64 op5, .int .i64 wd5, .int .u64 n5, .string nm5, .slice sa5 sl5 sc5], t), (k9, [.int .i64 k9, .int .i64 a9, .int .i64 op9, .int .i64 wd9, .int .u64 n9, .string nm9, .slice sa9 sl9 sc9], t2)], RR.out [(k5, [.int .i64 k5, .int .i64 a5, .int .i64 op5, .int .i64 wd5, .int .u64 n5, .string nm5, .slice sa5 sl5 sc5], t), (k9, [.int .i64 k9, .int .i64 a9, .int .i64 op9, .int .i64 wd9, .int .u64 n9, .string nm9, .slice sa9 sl9 sc9], t2)] (by simp) (by simp [elE]) rfl ?_ (by show ¬ (w4.heap.size ≤ _ ∧ _ ≠ w5.heap.size ∧ _ ≠ w9.heap.size); omega), t, t2, rfl, hl, hl2⟩
   intro u hu
   simp only [List.mem_cons, List.not_mem_nil, or_false] at hu
   rcases hu with rfl | rfl
   ·refine elE.mono ?_ (fun _ _ _ _ hu => hu) hp
    intro b hb
    have h1 : w4.heap.size ≤ b ∧ b < w5.heap.size := hb
    exact ⟨by show w4.heap.size ≤ b ∧ b ≠ w5.heap.size ∧ b ≠ w9.heap.size; omega, by simp [Value.ownBlock]⟩
   ·refine elE.mono ?_ (fun _ _ _ _ hu => hu) hp2
    intro b hb
    have h1 : w8.heap.size ≤ b ∧ b < w9.heap.size := hb
    exact ⟨by show w4.heap.size ≤ b ∧ b ≠ w5.heap.size ∧ b ≠ w9.heap.size; omega, by simp [Value.ownBlock]⟩
  clear BT_10
  clear BV_10
  clear P5_10
  clear P9_10
  have BR_11 := hI (KK.out.get (by omega) (by omega) BR_10.out)
  clear BR_10
  clear KK RR BB_10
  refine (must_any X11.out _).mono ?_
  rintro e w12 ⟨rfl, hk, c12, m12, hx, ha⟩
  have z12 : w11.heap.size ≤ w12.heap.size := hk.size
  have KK := hI hk
  have K12 : Hid (Kq br w w12) := K11.out.trans hk
  have X12 := hI hx
  have A12 := hI ha
  clear hk hx ha
  have BR_12 := hI (KK.out.get (by omega) BR_11.out)
  have BB_12 := hI (KK.out.get (by omega) BB_11.out)
  have PX_12 := hI (rw_to PX_11.out (fun k o hb h => KK.out.get (by omega) h))
  clear BR_11 BB_11 PX_11
  clear KK
  go_upto_region 38 with fail
  obtain ⟨p0R, p1R, p2R, p3R, p4R, p5R, p6R, pfR, plR⟩ := bx BR_12.out
  obtain ⟨p0B, p1B, p2B, p3B, p4B, p5B, p6B, pfB, plB⟩ := bx BB_12.out
  go_wp2_with fail
  refine bodyPost_ret (v := .agg #[.int .i64 5, .int .i64 aa, .bool true, .string ⟨#[]⟩, .slice (some ⟨g11, 0, none⟩) (2) cap11, .slice none 0 0, .slice none 0 0]) (by simp [results, Tryz.results57, go_sem, *]) rfl (st_close (r := w.heap.size) hlt K12.out X12.out (Adv.trans (A5.out) (Adv.trans (⟨Nat.le_of_lt hm8, fun _ => ⟨rfl, hm8⟩⟩) (Adv.trans (A9.out) (A12.out)))) (Nat.le_refl _) fun hc => ?_)
  obtain ⟨hc9, hm12⟩ := A12.out.2 hc
  obtain ⟨hc8, hm9⟩ := A9.out.2 hc9
  obtain ⟨_, hm5⟩ := A5.out.2 rfl
  obtain ⟨x0, hX, t, t2, rfl, hlx, hly⟩ := PX_12.out hc9
  refine ⟨_, ps_set aa true (hX.sub fun b hb => by show _ ∧ _; omega), ?_⟩
  show (t ++ [32, 60, 61, 32] ++ t2 ++ [59]).length + 2 ≤ _
  simp only [lnA, lnC, lnN]
  omega
 ·have hnop := trivial
  obtain ⟨p0B, p1B, p2B, p3B, p4B, p5B, p6B, pfB, plB⟩ := bx BB_6.out
  go_wp2_with fail
  generalize hS : w6.setCell ⟨(w.heap.size + 1), 2, none⟩ _ = w7
  clear p0B p1B p2B p3B p4B p5B p6B pfB plB
  obtain ⟨bb, zz, oo, kk, xx⟩ := set_box hS BB_6.out
  have z7 : w6.heap.size ≤ w7.heap.size := by omega
  have K7 : Hid (Kq br w w7) := kk br w K6.out (by omega)
  have X7 : Hid (Sx br s w7 c5 m5) := xx br s c5 m5 X6.out (by omega)
  have BB_7 : Hid (w7.heap[(w.heap.size + 1)]? = some (.cells #[.int .i64 5, .int .i64 aa, .bool false, .string ⟨#[]⟩, .slice none 0 0, .slice none 0 0, .slice none 0 0] 93)) := bb
  clear X6 K6 BB_6
  have BR_7 := hI ((oo _ (by omega)).trans BR_6.out)
  have BT_7 := hI ((oo _ (by omega)).trans BT_6.out)
  have P5_7 := hI (pe_to P5_6.out (fun k o hb h => (oo k (by omega)).trans h))
  clear BR_6 BT_6 P5_6
  clear hS bb zz oo kk xx
  refine (must_any X7.out _).mono ?_
  rintro e w8 ⟨rfl, hk, c8, m8, hx, ha⟩
  have z8 : w7.heap.size ≤ w8.heap.size := hk.size
  have KK := hI hk
  have K8 : Hid (Kq br w w8) := K7.out.trans hk
  have X8 := hI hx
  have A8 := hI ha
  clear hk hx ha
  have BR_8 := hI (KK.out.get (by omega) BR_7.out)
  have BB_8 := hI (KK.out.get (by omega) BB_7.out)
  have BT_8 := hI (KK.out.get (by omega) BT_7.out)
  have P5_8 := hI (pe_to P5_7.out (fun k o hb h => KK.out.get (by omega) h))
  clear BR_7 BB_7 BT_7 P5_7
  clear KK
  go_wp2_with fail
  refine (expr_read X8.out).mono ?_
  rintro e w9 ⟨k9, a9, op9, wd9, n9, nm9, sa9, sl9, sc9, rfl, hk, c9, m9, hx, ha, hp⟩
  have z9 : w8.heap.size ≤ w9.heap.size := hk.size
  have KK := hI hk
  have K9 : Hid (Kq br w w9) := K8.out.trans hk
  have X9 := hI hx
  have A9 := hI ha
  have P9_9 := hI (pe_born hp)
  clear hk hx ha hp
  have BR_9 := hI (KK.out.get (by omega) BR_8.out)
  have BB_9 := hI (KK.out.get (by omega) BB_8.out)
  have BT_9 := hI (KK.out.get (by omega) BT_8.out)
  have P5_9 := hI (pe_to P5_8.out (fun k o hb h => KK.out.get (by omega) h))
  clear BR_8 BB_8 BT_8 P5_8
  clear KK
  go_upto_region 9 with fail
  generalize hWW : w9.alloc (.cells _ 55) = w10
  obtain ⟨zz, bb, oo, kk⟩ := one_box hWW
  have z10 : w9.heap.size < w10.heap.size := by omega
  have K10 : Hid (Kq br w w10) := K9.out.trans (kk br).out
  have X10 : Hid (Sx br s w10 c9 m9) := X9.out.to (oo br X9.out.lt)
  clear X9 K9
  have BR_10 := hI ((oo _ (heap_lt BR_9.out)).trans BR_9.out)
  have BB_10 := hI ((oo _ (heap_lt BB_9.out)).trans BB_9.out)
  have BT_10 := hI ((oo _ (heap_lt BT_9.out)).trans BT_9.out)
  have P5_10 := hI (pe_to P5_9.out (fun k o hb h => (oo k (heap_lt h)).trans h))
  have P9_10 := hI (pe_to P9_9.out (fun k o hb h => (oo k (heap_lt h)).trans h))
  clear BR_9 BB_9 BT_9 P5_9 P9_9
  have BV_10 : Hid (w10.heap[w9.heap.size]? = some (.cells #[.int .i64 k9, .int .i64 a9, .int .i64 op9, .int .i64 wd9, .int .u64 n9, .string nm9, .slice sa9 sl9 sc9] 55)) := bb
  clear hWW zz oo kk bb
  obtain ⟨p0B, p1B, p2B, p3B, p4B, p5B, p6B, pfB, plB⟩ := bx BB_10.out
  obtain ⟨p0T, p1T, p2T, p3T, p4T, p5T, p6T, pfT, plT⟩ := bx BT_10.out
  obtain ⟨p0V, p1V, p2V, p3V, p4V, p5V, p6V, pfV, plV⟩ := bx BV_10.out
  obtain ⟨i5, hi, hzz, hsz, hby⟩ := info55'
  have HI5 := hI hi
  have HZ5 := hI hzz
  have HS5 := hI hsz
  have HB5 := hI hby
  clear hi hzz hsz hby
  go_wp2_with (at_builtin; refine wpList_append_lies _ rfl (.tmp 32) (.tmp 35) 53 rfl (w4.heap.size) 55 i5 _ 7 80 Tryz.underlying53 HI5.out HZ5.out HS5.out HB5.out rfl (by decide) (.slice none 0 0) (0) _ rfl (Rw.alloc (Rw.nil elE (fun b => w4.heap.size ≤ b ∧ b ≠ w5.heap.size ∧ b ≠ w9.heap.size) w4.heap.size w10) _).1 ⟨w10.heap.size, 0, none⟩ 2 2 [.int .i64 k5, .int .i64 a5, .int .i64 op5, .int .i64 wd5, .int .u64 n5, .string nm5, .slice sa5 sl5 sc5, .int .i64 k9, .int .i64 a9, .int .i64 op9, .int .i64 wd9, .int .u64 n9, .string nm9, .slice sa9 sl9 sc9] rfl rfl (new_cells _ _ _) seven_one2 (by decide) (by decide) (by decide) (by simp; omega) _ rfl ?_; intro g11 cap11 w611 hownX hgrowX hatX hltX; have eX := (hgrowX.block ((w.heap.size + 1)) (by have := heap_lt BB_10.out; simp; omega) (by simp [Value.ownBlock])).trans ((Below.heap_alloc _ _ _ (heap_lt BB_10.out)).trans BB_10.out); have OB := hI hownX; have GB := hI hgrowX; have TB := hI hatX; clear hownX hgrowX hatX; obtain ⟨p0B, p1B, p2B, p3B, p4B, p5B, p6B, pfB, plX⟩ := bx eX; clear eX)
  generalize hS : w611.setCell ⟨(w.heap.size + 1), 4, none⟩ _ = w11
  clear p0B p1B p2B p3B p4B p5B p6B pfB plB p0T p1T p2T p3T p4T p5T p6T pfT plT p0V p1V p2V p3V p4V p5V p6V pfV plV plX HI5 HZ5 HS5 HB5
  obtain ⟨bb, kk, ⟨sg11, sz11⟩, rr⟩ := row_app (S := fun b => w4.heap.size ≤ b ∧ b ≠ w5.heap.size ∧ b ≠ w9.heap.size) (xr := (w.heap.size + 1)) (Rw.nil elE (fun b => w4.heap.size ≤ b ∧ b ≠ w5.heap.size ∧ b ≠ w9.heap.size) w4.heap.size w10) OB.out GB.out TB.out rfl hltX BB_10.out (by simp [Value.ownBlock]) (.inl rfl) (by show w4.heap.size ≤ _ ∧ _ ≠ w5.heap.size ∧ _ ≠ w9.heap.size; simp only [World.size_alloc]; omega) hS
  have sg11 : w4.heap.size ≤ g11 ∧ g11 ≠ w5.heap.size ∧ g11 ≠ w9.heap.size := sg11
  have z11 : w10.heap.size ≤ w11.heap.size := kk.size
  have K11 : Hid (Kq br w w11) := K10.out.comp2 kk (by omega) (by omega)
  have X11 : Hid (Sx br s w11 c9 m9) := kk.sx (by omega) (by omega) X10.out
  have KK := hI kk
  have RR := hI rr
  have BB_11 : Hid (w11.heap[(w.heap.size + 1)]? = some (.cells #[.int .i64 5, .int .i64 aa, .bool false, .string ⟨#[]⟩, .slice (some ⟨g11, 0, none⟩) (2) cap11, .slice none 0 0, .slice none 0 0] 93)) := bb
  clear hS bb kk rr hltX OB GB TB X10 K10
  have PX_11 : Hid (c9 = 0 → ∃ xs : List (Ele), Rw elE (fun b => w4.heap.size ≤ b ∧ b ≠ w5.heap.size ∧ b ≠ w9.heap.size) (w4.heap.size) w11 (.slice (some ⟨g11, 0, none⟩) (2) cap11) xs ∧ (∃ t t2, xs = [(k5, [.int .i64 k5, .int .i64 a5, .int .i64 op5, .int .i64 wd5, .int .u64 n5, .string nm5, .slice sa5 sl5 sc5], t), (k9, [.int .i64 k9, .int .i64 a9, .int .i64 op9, .int .i64 wd9, .int .u64 n9, .string nm9, .slice sa9 sl9 sc9], t2)] ∧ t.length ≤ 64 * (m - m5) ∧ t2.length ≤ 64 * (m8 - m9))) := by
   intro hc
   obtain ⟨hc8, _⟩ := A9.out.2 hc
   obtain ⟨hc5, _⟩ := A8.out.2 hc8
   obtain ⟨t, hp, hl⟩ := P5_10.out hc5
   obtain ⟨t2, hp2, hl2⟩ := P9_10.out hc
   refine ⟨[(k5, [.int .i64 k5, .int .i64 a5, .int .i64 op5, .int .i64 wd5, .int .u64 n5, .string nm5, .slice sa5 sl5 sc5], t), (k9, [.int .i64 k9, .int .i64 a9, .int .i64 op9, .int .i64 wd9, .int .u64 n9, .string nm9, .slice sa9 sl9 sc9], t2)], RR.out [(k5, [.int .i64 k5, .int .i64 a5, .int .i64 op5, .int .i64 wd5, .int .u64 n5, .string nm5, .slice sa5 sl5 sc5], t), (k9, [.int .i64 k9, .int .i64 a9, .int .i64 op9, .int .i64 wd9, .int .u64 n9, .string nm9, .slice sa9 sl9 sc9], t2)] (by simp) (by simp [elE]) rfl ?_ (by show ¬ (w4.heap.size ≤ _ ∧ _ ≠ w5.heap.size ∧ _ ≠ w9.heap.size); omega), t, t2, rfl, hl, hl2⟩
   intro u hu
   simp only [List.mem_cons, List.not_mem_nil, or_false] at hu
   rcases hu with rfl | rfl
   ·refine elE.mono ?_ (fun _ _ _ _ hu => hu) hp
    intro b hb
    have h1 : w4.heap.size ≤ b ∧ b < w5.heap.size := hb
    exact ⟨by show w4.heap.size ≤ b ∧ b ≠ w5.heap.size ∧ b ≠ w9.heap.size; omega, by simp [Value.ownBlock]⟩
   ·refine elE.mono ?_ (fun _ _ _ _ hu => hu) hp2
    intro b hb
    have h1 : w8.heap.size ≤ b ∧ b < w9.heap.size := hb
    exact ⟨by show w4.heap.size ≤ b ∧ b ≠ w5.heap.size ∧ b ≠ w9.heap.size; omega, by simp [Value.ownBlock]⟩
  clear BT_10
  clear BV_10
  clear P5_10
  clear P9_10
  have BR_11 := hI (KK.out.get (by omega) (by omega) BR_10.out)
  clear BR_10
  clear KK RR BB_10
  refine (must_any X11.out _).mono ?_
  rintro e w12 ⟨rfl, hk, c12, m12, hx, ha⟩
  have z12 : w11.heap.size ≤ w12.heap.size := hk.size
  have KK := hI hk
  have K12 : Hid (Kq br w w12) := K11.out.trans hk
  have X12 := hI hx
  have A12 := hI ha
  clear hk hx ha
  have BR_12 := hI (KK.out.get (by omega) BR_11.out)
  have BB_12 := hI (KK.out.get (by omega) BB_11.out)
  have PX_12 := hI (rw_to PX_11.out (fun k o hb h => KK.out.get (by omega) h))
  clear BR_11 BB_11 PX_11
  clear KK
  go_upto_region 38 with fail
  obtain ⟨p0R, p1R, p2R, p3R, p4R, p5R, p6R, pfR, plR⟩ := bx BR_12.out
  obtain ⟨p0B, p1B, p2B, p3B, p4B, p5B, p6B, pfB, plB⟩ := bx BB_12.out
  go_wp2_with fail
  refine bodyPost_ret (v := .agg #[.int .i64 5, .int .i64 aa, .bool false, .string ⟨#[]⟩, .slice (some ⟨g11, 0, none⟩) (2) cap11, .slice none 0 0, .slice none 0 0]) (by simp [results, Tryz.results57, go_sem, *]) rfl (st_close (r := w.heap.size) hlt K12.out X12.out (Adv.trans (A5.out) (Adv.trans (A8.out) (Adv.trans (A9.out) (A12.out)))) (Nat.le_refl _) fun hc => ?_)
  obtain ⟨hc9, hm12⟩ := A12.out.2 hc
  obtain ⟨hc8, hm9⟩ := A9.out.2 hc9
  obtain ⟨hc5, hm8⟩ := A8.out.2 hc8
  obtain ⟨_, hm5⟩ := A5.out.2 hc5
  obtain ⟨x0, hX, t, t2, rfl, hlx, hly⟩ := PX_12.out hc9
  refine ⟨_, ps_set aa false (hX.sub fun b hb => by show _ ∧ _; omega), ?_⟩
  show (t ++ [32, 61, 32] ++ t2 ++ [59]).length + 2 ≤ _
  simp only [lnA, lnC, lnN]
  omega
end Go.Proofs.YtimmmlnememjiaaGreatDoor
