import Derived.Test.YtimmmlnememjiaaGreatDoorX
import Derived.Test.YtimmmlnememjiaaGreatDoorX13
import Derived.Test.YtimmmlnememjiaaGreatDoorX14
set_option maxRecDepth 100000
set_option maxHeartbeats 16000000
namespace Go.Proofs.YtimmmlnememjiaaGreatDoor
open Go.RowKit
theorem Rw.own {α : Type} {E : Elt α} {S : Nat → Prop} {L : Nat} {w : World} {v : Value} {es : List α} (h : Rw E S L w v es) {x0 : Nat} (h0 : S x0) : ∃ xr, (v.ownBlock = none ∨ v.ownBlock = some xr) ∧ S xr := by
 cases e : v.ownBlock with
 | none => exact ⟨x0, .inl rfl, h0⟩
 | some g => exact ⟨g, .inr rfl, h.2.1 g e⟩
theorem Rw.not_own {α : Type} {E : Elt α} {S : Nat → Prop} {L : Nat} {w : World} {v : Value} {es : List α} (h : Rw E S L w v es) {b : Nat} (hb : ¬ S b) : some b ≠ v.ownBlock := fun e => hb (h.2.1 b e.symm)
theorem step_bad {br : Nat} {s : ByteArray} {w : World} {c : Int} {m : Nat} (h : Sx br s w c m) (hc : c ≠ 0) : Calls Tryz.prog 9 #[.pointer (some ⟨br, 0, none⟩)] w fun e w' => e = .returned (.tuple #[]) ∧ Kq br w w' ∧ Sx br s w' c m := by
 have H := h
 obtain ⟨k, wd, n, T, a, q, fa, hr, h'⟩ := h
 refine (step_some br s k a wd T n q c fa w hr (beq_eq_false_iff_ne.2 hc)).mono ?_
 rintro e w' ⟨rfl, rfl⟩
 exact ⟨rfl, Kq.refl _ _, H⟩
theorem nine_one {d : Bool} {la : Option Addr} {ll lc : Nat} {k a : Int} {later : Bool} {nm : ByteArray} {xa : Option Addr} {xl xc : Nat} {sa : Option Addr} {sl sc : Nat} {aa : Option Addr} {al ac : Nat} : ∀ u ∈ [Value.bool d, .slice la ll lc, Value.int .i64 k, .int .i64 a, .bool later, .string nm, .slice xa xl xc, .slice sa sl sc, .slice aa al ac], u.oneCell' = true := by
 intro u hu
 simp at hu
 rcases hu with rfl | rfl | rfl | rfl | rfl | rfl | rfl | rfl | rfl <;> rfl
theorem adv_ge {c c4 cr c' : Int} {m m4 mr m' : Nat} (A : Adv c m c4 m4) (h : cr = 0 → c4 = 0) (hm : mr ≤ m4) (B : Adv cr mr c' m') : Adv c m c' m' :=
 ⟨by have := A.1; have := B.1; omega, fun e => ⟨(A.2 (h (B.2 e).1)).1, by have := (B.2 e).2; have := A.1; omega⟩⟩
theorem adv_lab {m m8 mi m' : Nat} {c8 ci c' : Int} (A : Adv 0 m c8 m8) (h : ci = 0 → c8 = 0) (hm : mi ≤ m8) (B : Adv ci mi c' m') : Adv 0 m c' m' := adv_ge A h hm B
theorem cases_any (M : Nat) (IH : ∀ M', M' < M → CStmt M') : CCases M := by
 intro br s c m w k0 a0 h hM
 have HX := hI h
 have hlt := h.lt
 have HM := hI hM
 have HI := hI IH
 clear hM IH h
 go_enter Tryz.func76, Tryz.ntmps76
 go_wp2_with fail
 generalize hW : (w.alloc (.cells _ 93)).alloc (.cells _ 93) = w0
 obtain ⟨hz, r0, r1, kW, sW⟩ := two_boxes hW
 have K0 := kW br
 have X0 := sW br s c m HX.out
 have BB_0 : Hid (w0.heap[w.heap.size]? = some (.cells #[.int .i64 4, .int .i64 a0, .bool false, .string ⟨#[]⟩, .slice none 0 0, .slice none 0 0, .slice none 0 0] 93)) := r0
 have BR_0 : Hid (w0.heap[(w.heap.size + 1)]? = some (.cells #[.int .i64 0, .int .i64 0, .bool false, .string ⟨#[]⟩, .slice none 0 0, .slice none 0 0, .slice none 0 0] 93)) := r1
 have z0 : w.heap.size + 2 = w0.heap.size := hz.symm
 clear hW kW sW r0 r1 hz HX
 refine (must_any X0.out _).mono ?_
 rintro e w1 ⟨rfl, hk, c1, m1, hx, ha⟩
 have z1 : w0.heap.size ≤ w1.heap.size := hk.size
 have KK := hI hk
 have K1 : Hid (Kq br w w1) := K0.out.trans hk
 have X1 := hI hx
 have A1 := hI ha
 clear hk hx ha
 have BB_1 := hI (KK.out.get (by omega) BB_0.out)
 have BR_1 := hI (KK.out.get (by omega) BR_0.out)
 clear BB_0 BR_0
 clear KK
 go_wp2_with fail
 refine (expr_read X1.out).mono ?_
 rintro e w2 ⟨k2, a2, op2, wd2, n2, nm2, sa2, sl2, sc2, rfl, hk, c2, m2, hx, ha, hp⟩
 have z2 : w1.heap.size ≤ w2.heap.size := hk.size
 have KK := hI hk
 have K2 : Hid (Kq br w w2) := K1.out.trans hk
 have X2 := hI hx
 have A2 := hI ha
 have P2_2 := hI (pe_born hp)
 clear hk hx ha hp
 have BB_2 := hI (KK.out.get (by omega) BB_1.out)
 have BR_2 := hI (KK.out.get (by omega) BR_1.out)
 clear BB_1 BR_1
 clear KK
 go_wp2_with fail
 generalize hWW : w2.alloc (.cells _ 55) = w3
 obtain ⟨zz, bb, oo, kk⟩ := one_box hWW
 have z3 : w2.heap.size < w3.heap.size := by omega
 have K3 : Hid (Kq br w w3) := K2.out.trans (kk br).out
 have X3 : Hid (Sx br s w3 c2 m2) := X2.out.to (oo br X2.out.lt)
 clear X2 K2
 have BB_3 := hI ((oo _ (heap_lt BB_2.out)).trans BB_2.out)
 have BR_3 := hI ((oo _ (heap_lt BR_2.out)).trans BR_2.out)
 have P2_3 := hI (pe_to P2_2.out (fun k o hb h => (oo k (heap_lt h)).trans h))
 clear BB_2 BR_2 P2_2
 have BE_3 : Hid (w3.heap[w2.heap.size]? = some (.cells #[.int .i64 k2, .int .i64 a2, .int .i64 op2, .int .i64 wd2, .int .u64 n2, .string nm2, .slice sa2 sl2 sc2] 55)) := bb
 clear hWW zz oo kk bb
 refine (must_any X3.out _).mono ?_
 rintro e w4 ⟨rfl, hk, c4, m4, hx, ha⟩
 have z4 : w3.heap.size ≤ w4.heap.size := hk.size
 have KK := hI hk
 have K4 : Hid (Kq br w w4) := K3.out.trans hk
 have X4 := hI hx
 have A4 := hI ha
 clear hk hx ha
 have BB_4 := hI (KK.out.get (by omega) BB_3.out)
 have BR_4 := hI (KK.out.get (by omega) BR_3.out)
 have BE_4 := hI (KK.out.get (by omega) BE_3.out)
 have P2_4 := hI (pe_to P2_3.out (fun k o hb h => KK.out.get (by omega) h))
 clear BB_3 BR_3 BE_3 P2_3
 clear KK
 obtain ⟨p0B, p1B, p2B, p3B, p4B, p5B, p6B, pfB, plB⟩ := bx BB_4.out
 obtain ⟨p0E, p1E, p2E, p3E, p4E, p5E, p6E, pfE, plE⟩ := bx BE_4.out
 obtain ⟨i5, hi, hzz, hsz, hby⟩ := info55'
 have HI5 := hI hi
 have HZ5 := hI hzz
 have HS5 := hI hsz
 have HB5 := hI hby
 clear hi hzz hsz hby
 go_wp2_with (at_builtin; refine wpList_append_lies _ rfl (.tmp 17) (.tmp 19) 53 rfl (w0.heap.size) 55 i5 _ 7 80 Tryz.underlying53 HI5.out HZ5.out HS5.out HB5.out rfl (by decide) (.slice none 0 0) (0) _ rfl (Rw.alloc (Rw.nil elE (fun b => w0.heap.size ≤ b ∧ b ≠ w2.heap.size) w0.heap.size w4) _).1 ⟨w4.heap.size, 0, none⟩ 1 1 [.int .i64 k2, .int .i64 a2, .int .i64 op2, .int .i64 wd2, .int .u64 n2, .string nm2, .slice sa2 sl2 sc2] rfl rfl (new_cells _ _ _) seven_one (by decide) (by decide) (by decide) (by simp; omega) _ rfl ?_; intro g5 cap5 w65 hownX hgrowX hatX hltX; have eX := (hgrowX.block (w.heap.size) (by have := heap_lt BB_4.out; simp; omega) (by simp [Value.ownBlock])).trans ((Below.heap_alloc _ _ _ (heap_lt BB_4.out)).trans BB_4.out); have OB := hI hownX; have GB := hI hgrowX; have TB := hI hatX; clear hownX hgrowX hatX; obtain ⟨p0B, p1B, p2B, p3B, p4B, p5B, p6B, pfB, plX⟩ := bx eX; clear eX)
 generalize hS : w65.setCell ⟨w.heap.size, 4, none⟩ _ = w5
 clear p0B p1B p2B p3B p4B p5B p6B pfB plB p0E p1E p2E p3E p4E p5E p6E pfE plE plX HI5 HZ5 HS5 HB5
 obtain ⟨bb, kk, ⟨sg5, sz5⟩, rr⟩ := row_app (S := fun b => w0.heap.size ≤ b ∧ b ≠ w2.heap.size) (xr := w.heap.size) (Rw.nil elE (fun b => w0.heap.size ≤ b ∧ b ≠ w2.heap.size) w0.heap.size w4) OB.out GB.out TB.out rfl hltX BB_4.out (by simp [Value.ownBlock]) (.inl rfl) (by show w0.heap.size ≤ _ ∧ _ ≠ w2.heap.size; simp only [World.size_alloc]; omega) hS
 have sg5 : w0.heap.size ≤ g5 ∧ g5 ≠ w2.heap.size := sg5
 have z5 : w4.heap.size ≤ w5.heap.size := kk.size
 have K5 : Hid (Kq br w w5) := K4.out.comp2 kk (by omega) (by omega)
 have X5 : Hid (Sx br s w5 c4 m4) := kk.sx (by omega) (by omega) X4.out
 have KK := hI kk
 have RR := hI rr
 have BB_5 : Hid (w5.heap[w.heap.size]? = some (.cells #[.int .i64 4, .int .i64 a0, .bool false, .string ⟨#[]⟩, .slice (some ⟨g5, 0, none⟩) (1) cap5, .slice none 0 0, .slice none 0 0] 93)) := bb
 clear hS bb kk rr hltX OB GB TB X4 K4
 have PX_5 : Hid (c2 = 0 → ∃ xs : List (Ele), Rw elE (fun b => w0.heap.size ≤ b ∧ b ≠ w2.heap.size) (w0.heap.size) w5 (.slice (some ⟨g5, 0, none⟩) (1) cap5) xs ∧ (∃ t, xs = [(k2, [.int .i64 k2, .int .i64 a2, .int .i64 op2, .int .i64 wd2, .int .u64 n2, .string nm2, .slice sa2 sl2 sc2], t)] ∧ t.length ≤ 64 * (m1 - m2))) := by
  intro hc
  obtain ⟨t, hp, hl⟩ := P2_4.out hc
  refine ⟨[(k2, [.int .i64 k2, .int .i64 a2, .int .i64 op2, .int .i64 wd2, .int .u64 n2, .string nm2, .slice sa2 sl2 sc2], t)], RR.out [(k2, [.int .i64 k2, .int .i64 a2, .int .i64 op2, .int .i64 wd2, .int .u64 n2, .string nm2, .slice sa2 sl2 sc2], t)] (by simp) (by simp [elE]) rfl ?_ (by show ¬ (w0.heap.size ≤ _ ∧ _ ≠ w2.heap.size); omega), t, rfl, hl⟩
  intro y hy
  rw [List.mem_singleton] at hy
  subst hy
  refine elE.mono ?_ (fun _ _ _ _ hu => hu) hp
  intro b hb
  have h1 : w1.heap.size ≤ b ∧ b < w2.heap.size := hb
  exact ⟨by show w0.heap.size ≤ b ∧ b ≠ w2.heap.size; omega, by simp [Value.ownBlock]⟩
 clear BE_4
 clear P2_4
 have BR_5 := hI (KK.out.get (by omega) (by omega) BR_4.out)
 clear BR_4
 clear KK RR BB_4
 have PX_5b := hI (rw_born PX_5.out)
 clear PX_5
 have A4z : Hid (Adv c m c4 m4) := Adv.trans (A1.out) (Adv.trans (A2.out) (A4.out))
 have hm60 : m4 ≤ 60001 := X5.out.le
 go_loopg [6] (meas c4 m4) (fun gk sm wr => ∃ (sb : Bool) (cr : Int) (mr : Nat) (sa : Option Addr) (sl sc : Nat), sm = .bool sb ∧ gk = meas cr mr ∧ Hid (Sx br s wr cr mr) ∧ Hid (Kq br w wr) ∧ Hid (wr.heap[(w.heap.size + 1)]? = some (.cells #[.int .i64 0, .int .i64 0, .bool false, .string ⟨#[]⟩, .slice none 0 0, .slice none 0 0, .slice none 0 0] 93)) ∧ Hid (wr.heap[w.heap.size]? = some (.cells #[.int .i64 4, .int .i64 a0, .bool false, .string ⟨#[]⟩, .slice (some ⟨g5, 0, none⟩) (1) cap5, .slice none 0 0, .slice sa sl sc] 93)) ∧ w5.heap.size ≤ wr.heap.size ∧ Hid (c2 = 0 → ∃ xs : List Ele, Rw elE (fun b => (w0.heap.size ≤ b ∧ b ≠ w2.heap.size) ∧ b < w5.heap.size) w0.heap.size wr (.slice (some ⟨g5, 0, none⟩) (1) cap5) xs ∧ (∃ t, xs = [(k2, [.int .i64 k2, .int .i64 a2, .int .i64 op2, .int .i64 wd2, .int .u64 n2, .string nm2, .slice sa2 sl2 sc2], t)] ∧ t.length ≤ 64 * (m1 - m2))) ∧ Hid (cr = 0 → ∃ xs : List ArmD, Rw elA (fun b => w5.heap.size ≤ b) w5.heap.size wr (.slice sa sl sc) xs ∧ (xs.length + mr ≤ m4 ∧ (spaced (xs.map armTxt)).length ≤ 64 * (m4 - mr) ∧ ∀ d ∈ xs, d.dflt = false → 1 ≤ d.labels.length)) ∧ mr ≤ m4 ∧ Hid (cr = 0 → c4 = 0))
 case atStart => exact ⟨false, c4, m4, none, 0, 0, rfl, rfl, X5, K5, BR_5, BB_5, Nat.le_refl _, PX_5b, (fun _ => ⟨[], Rw.nil _ _ _ _, by simp [spaced]⟩ : Hid _), Nat.le_refl _, (fun h => h : Hid _)⟩
 case round =>
  obtain ⟨sb, cr, mr, sa, sl, sc, rfl, hgk, XR, KR, BR_r, BB_r, zR, PX_r, PL_r, hmr, HC4⟩ := hrel
  clear X5 K5 BR_5 BB_5 PX_5b
  obtain ⟨wo, hwo⟩ : ∃ x, x = wr := ⟨_, rfl⟩
  subst hwo
  have XS := XR.out
  obtain ⟨kt, wdt, nt, Tt, at9, qt, fat, hra, h'⟩ := XS
  obtain ⟨f0, f1, f2, f3, f4, f5, f6, f7, f8, fz⟩ := hra.all
  clear h' hra
  by_cases hcz : cr = 0
  ·subst hcz
   obtain ⟨es, hR, hn, hl⟩ := PL_r.out rfl
   have HR := hI hR.strong
   have HLL := hI hl
   have hc4 := HC4.out rfl
   clear HC4
   have HC4 := hI hc4
   have hM1 : Hid (m + 1 ≤ M) := by
    have hcc := (A4z.out.2 hc4).1
    have := HM.out
    rw [hcc] at this; simp only [meas, if_pos] at this; exact this
   have hmA : m4 < m := (A4z.out.2 hc4).2
   clear hR hl hc4 PL_r HM
   go_wp2_with fail
   clear f0 f1 f2 f3 f4 f5 f6 f7 f8 fz
   refine is_alt XR.out _ ?_ ?_
   ·intro _ _ _ _ _
    go_wp2_with fail
    refine (must_any XR.out _).mono ?_
    rintro e w20 ⟨rfl, hk, c20, m20, hx, ha⟩
    have z20 : wo.heap.size ≤ w20.heap.size := hk.size
    have KK := hI hk
    have K20 : Hid (Kq br w w20) := KR.out.trans hk
    have X20 := hI hx
    have A20 := hI ha
    clear hk hx ha
    have BB_20 := hI (KK.out.get (by omega) BB_r.out)
    have BR_20 := hI (KK.out.get (by omega) BR_r.out)
    have PX_20 := hI (rw_to PX_r.out (fun k o hb h => KK.out.get (by omega) h))
    have PL_20 := hI (Rw.to HR.out (fun k o hb h => KK.out.get (by omega) h))
    clear BB_r BR_r PX_r HR
    clear KK
    obtain ⟨p0R, p1R, p2R, p3R, p4R, p5R, p6R, pfR, plR⟩ := bx BR_20.out
    obtain ⟨p0B, p1B, p2B, p3B, p4B, p5B, p6B, pfB, plB⟩ := bx BB_20.out
    go_wp2_with fail
    refine bodyPost_ret (v := .agg #[.int .i64 4, .int .i64 a0, .bool false, .string ⟨#[]⟩, .slice (some ⟨g5, 0, none⟩) (1) cap5, .slice none 0 0, .slice sa sl sc]) (by simp [results, Tryz.results76, go_sem, *]) rfl (st_close (r := w.heap.size + 1) hlt K20.out X20.out (adv_ge A4z.out (fun _ => HC4.out) hmr A20.out) (by omega) fun hc => ?_)
    obtain ⟨_, hm20⟩ := A20.out.2 hc
    obtain ⟨hc2, hm4a⟩ := A4.out.2 HC4.out
    obtain ⟨hc1, hm2a⟩ := A2.out.2 hc2
    obtain ⟨_, hm1a⟩ := A1.out.2 hc1
    obtain ⟨x0, hX, tx, rfl, hlx⟩ := PX_20.out hc2
    have hR := PL_20.out
    obtain ⟨hl, hdf⟩ := HLL.out
    refine ⟨_, ps_case a0 (hX.sub fun b hb => by show _ ∧ _; omega) (hR.sub fun b hb => by show _ ∧ _; omega) hdf, ?_⟩
    simp only [lnA, lnC, lnN]
    omega
   go_wp2_with fail
   generalize hWW : wo.alloc (.cells _ 127) = w6
   obtain ⟨zz, bb, oo, kk⟩ := one_box hWW
   have z6 : wo.heap.size < w6.heap.size := by omega
   have K6 : Hid (Kq br w w6) := KR.out.trans (kk br).out
   have X6 : Hid (Sx br s w6 0 mr) := XR.out.to (oo br XR.out.lt)
   clear XR KR
   have BB_6 := hI ((oo _ (heap_lt BB_r.out)).trans BB_r.out)
   have BR_6 := hI ((oo _ (heap_lt BR_r.out)).trans BR_r.out)
   have PX_6 := hI (rw_to PX_r.out (fun k o hb h => (oo k (heap_lt h)).trans h))
   have PL_6 := hI (Rw.to HR.out (fun k o hb h => (oo k (heap_lt h)).trans h))
   clear BB_r BR_r PX_r HR
   have BA_6 : Hid (w6.heap[wo.heap.size]? = some (.cells #[.bool false, .slice none 0 0, .int .i64 0, .int .i64 0, .bool false, .string ⟨#[]⟩, .slice none 0 0, .slice none 0 0, .slice none 0 0] 127)) := bb
   clear hWW zz oo kk bb
   refine is_alt X6.out _ ?_ ?_
   ·intro _ wdt nt Tt hst
    have HST := hI hst
    clear hst
    obtain ⟨p0A, p1A, p2A, p3A, p4A, p5A, p6A, p7A, p8A, pfA, plA⟩ := bx9 BA_6.out
    cases sb
    ·go_wp2_with fail
     generalize hS : w6.setCell ⟨wo.heap.size, 0, none⟩ _ = w7
     have HST7 : Hid (St br s w7 0 mr 3 wdt nt Tt) := HST.out.to (by rw [← hS]; exact Below.heap_setCell _ _ _ _ (show br ≠ wo.heap.size by omega))
     clear HST
     clear p0A p1A p2A p3A p4A p5A p6A p7A p8A pfA plA
     obtain ⟨bb, zz, oo, kk, xx⟩ := set_box hS BA_6.out
     have z7 : w6.heap.size ≤ w7.heap.size := by omega
     have K7 : Hid (Kq br w w7) := kk br w K6.out (by omega)
     have X7 : Hid (Sx br s w7 0 mr) := xx br s 0 mr X6.out (by omega)
     have BA_7 : Hid (w7.heap[wo.heap.size]? = some (.cells #[.bool true, .slice none 0 0, .int .i64 0, .int .i64 0, .bool false, .string ⟨#[]⟩, .slice none 0 0, .slice none 0 0, .slice none 0 0] 127)) := bb
     clear X6 K6 BA_6
     have BB_7 := hI ((oo _ (by omega)).trans BB_6.out)
     have BR_7 := hI ((oo _ (by omega)).trans BR_6.out)
     have PX_7 := hI (rw_to PX_6.out (fun k o hb h => (oo k (by omega)).trans h))
     have PL_7 := hI (Rw.to PL_6.out (fun k o hb h => (oo k (by omega)).trans h))
     clear BB_6 BR_6 PX_6 PL_6
     clear hS bb zz oo kk xx
     refine (step_st HST7.out (by decide) (by decide)).mono ?_
     rintro e w8 ⟨rfl, hk, m8, hm8, hx⟩
     have z8 : w7.heap.size ≤ w8.heap.size := hk.size
     have KK := hI hk
     have K8 : Hid (Kq br w w8) := K7.out.trans hk
     have X8 := hI hx
     clear hk hx
     have BB_8 := hI (KK.out.get (by omega) BB_7.out)
     have BR_8 := hI (KK.out.get (by omega) BR_7.out)
     have BA_8 := hI (KK.out.get (by omega) BA_7.out)
     have PX_8 := hI (rw_to PX_7.out (fun k o hb h => KK.out.get (by omega) h))
     have PL_8 := hI (Rw.to PL_7.out (fun k o hb h => KK.out.get (by omega) h))
     clear BB_7 BR_7 BA_7 PX_7 PL_7
     clear KK
     clear HST7
     go_wp2_with fail
     refine accept_alt X8.out _ ?_ ?_
     ·intro _ m9 w9 hm9 hk hx
      have z9 : w8.heap.size ≤ w9.heap.size := hk.size
      have KK := hI hk
      have K9 : Hid (Kq br w w9) := K8.out.trans hk
      have X9 := hI hx
      clear hk hx X8 K8
      have BB_9 := hI (KK.out.get (by omega) BB_8.out)
      have BR_9 := hI (KK.out.get (by omega) BR_8.out)
      have BA_9 := hI (KK.out.get (by omega) BA_8.out)
      have PX_9 := hI (rw_to PX_8.out (fun k o hb h => KK.out.get (by omega) h))
      have PL_9 := hI (Rw.to PL_8.out (fun k o hb h => KK.out.get (by omega) h))
      clear BB_8 BR_8 BA_8 PX_8 PL_8
      clear KK
      go_wp2_with fail
      have HL : Hid (meas 0 m9 < M) := by
       have hm1 := hM1.out
       show _ < _
       unfold meas
       split <;> omega
      refine (HI.out _ HL.out br s 0 m9 w9 X9.out (Nat.le_refl _)).mono ?_
      rintro e w13 ⟨k13, a13, lt13, nm13, xa13, xl13, xc13, sa13, sl13, sc13, aa13, al13, ac13, rfl, hk, c13, m13, hx, ha, hp⟩
      have z13 : w9.heap.size ≤ w13.heap.size := hk.size
      have KK := hI hk
      have K13 : Hid (Kq br w w13) := K9.out.trans hk
      have X13 := hI hx
      have A13 := hI ha
      have P13_13 := hI (ps_born hp)
      clear hk hx ha hp
      have BB_13 := hI (KK.out.get (by omega) BB_9.out)
      have BR_13 := hI (KK.out.get (by omega) BR_9.out)
      have BA_13 := hI (KK.out.get (by omega) BA_9.out)
      have PX_13 := hI (rw_to PX_9.out (fun k o hb h => KK.out.get (by omega) h))
      have PL_13 := hI (Rw.to PL_9.out (fun k o hb h => KK.out.get (by omega) h))
      clear BB_9 BR_9 BA_9 PX_9 PL_9
      clear KK
      clear HL
      obtain ⟨p0A, p1A, p2A, p3A, p4A, p5A, p6A, p7A, p8A, pfA, plA⟩ := bx9 BA_13.out
      go_upto_region 23 with fail
      generalize hS : (((((((w13.setCell ⟨wo.heap.size, 2, none⟩ (.int .i64 k13)).setCell ⟨wo.heap.size, 3, none⟩ (.int .i64 a13)).setCell ⟨wo.heap.size, 4, none⟩ (.bool lt13)).setCell ⟨wo.heap.size, 5, none⟩ (.string nm13)).setCell ⟨wo.heap.size, 6, none⟩ (.slice xa13 xl13 xc13)).setCell ⟨wo.heap.size, 7, none⟩ (.slice sa13 sl13 sc13)).setCell ⟨wo.heap.size, 8, none⟩ (.slice aa13 al13 ac13)) = w14
      clear p0A p1A p2A p3A p4A p5A p6A p7A p8A pfA plA
      have hS2 : setFrom w13 (wo.heap.size) 2 [.int .i64 k13, .int .i64 a13, .bool lt13, .string nm13, .slice xa13 xl13 xc13, .slice sa13 sl13 sc13, .slice aa13 al13 ac13] = w14 := hS
      obtain ⟨bb, zz, oo, kk, xx⟩ := set_boxN hS2 BA_13.out
      have z14 : w13.heap.size ≤ w14.heap.size := by omega
      have K14 : Hid (Kq br w w14) := kk br w K13.out (by omega)
      have X14 : Hid (Sx br s w14 c13 m13) := xx br s c13 m13 X13.out (by omega)
      have BA_14 : Hid (w14.heap[wo.heap.size]? = some (.cells #[.bool true, .slice none 0 0, .int .i64 k13, .int .i64 a13, .bool lt13, .string nm13, .slice xa13 xl13 xc13, .slice sa13 sl13 sc13, .slice aa13 al13 ac13] 127)) := bb
      clear X13 K13 BA_13
      have BB_14 := hI ((oo _ (by omega)).trans BB_13.out)
      have BR_14 := hI ((oo _ (by omega)).trans BR_13.out)
      have PX_14 := hI (rw_to PX_13.out (fun k o hb h => (oo k (by omega)).trans h))
      have PL_14 := hI (Rw.to PL_13.out (fun k o hb h => (oo k (by omega)).trans h))
      have P13_14 := hI (ps_to P13_13.out (fun k o hb h => (oo k (by omega)).trans h))
      clear BB_13 BR_13 PX_13 PL_13 P13_13
      clear hS hS2 bb zz oo kk xx
      obtain ⟨p0B, p1B, p2B, p3B, p4B, p5B, p6B, pfB, plB⟩ := bx BB_14.out
      obtain ⟨p0A, p1A, p2A, p3A, p4A, p5A, p6A, p7A, p8A, pfA, plA⟩ := bx9 BA_14.out
      obtain ⟨xr15, hxo15, hxS15⟩ := Rw.own ((PL_14.out.sub (S' := fun b => w5.heap.size ≤ b) (fun b hb => by show w5.heap.size ≤ b; omega))) (x0 := w14.heap.size) (by show w5.heap.size ≤ w14.heap.size; omega)
      have hxS15 : w5.heap.size ≤ xr15 := hxS15
      have hne15 := hI (Rw.not_own ((PL_14.out.sub (S' := fun b => w5.heap.size ≤ b) (fun b hb => by show w5.heap.size ≤ b; omega))) (b := w.heap.size) (by show ¬ (w5.heap.size ≤ w.heap.size); omega))
      obtain ⟨i5, hi, hzz, hsz, hby⟩ := info127'
      have HI5 := hI hi
      have HZ5 := hI hzz
      have HS5 := hI hsz
      have HB5 := hI hby
      clear hi hzz hsz hby
      go_wp2_with (at_builtin; refine wpList_append_lies _ rfl (.tmp 70) (.tmp 72) 91 rfl (w5.heap.size) 127 i5 _ 9 144 Tryz.underlying91 HI5.out HZ5.out HS5.out HB5.out rfl (by decide) (.slice sa sl sc) (es.length) _ rfl (Rw.alloc ((PL_14.out.sub (S' := fun b => w5.heap.size ≤ b) (fun b hb => by show w5.heap.size ≤ b; omega))) _).1 ⟨w14.heap.size, 0, none⟩ 1 1 [.bool true, .slice none 0 0, .int .i64 k13, .int .i64 a13, .bool lt13, .string nm13, .slice xa13 xl13 xc13, .slice sa13 sl13 sc13, .slice aa13 al13 ac13] rfl rfl (new_cells _ _ _) nine_one (by decide) (by simp only [maxLen]; omega) (by omega) (by simp; omega) _ rfl ?_; intro g15 cap15 w615 hownX hgrowX hatX hltX; have eX := (hgrowX.block (w.heap.size) (by have := heap_lt BB_14.out; simp; omega) (hne15.out)).trans ((Below.heap_alloc _ _ _ (heap_lt BB_14.out)).trans BB_14.out); have OB := hI hownX; have GB := hI hgrowX; have TB := hI hatX; clear hownX hgrowX hatX; obtain ⟨p0B, p1B, p2B, p3B, p4B, p5B, p6B, pfB, plX⟩ := bx eX; clear eX)
      generalize hS : w615.setCell ⟨w.heap.size, 6, none⟩ _ = w15
      clear p0B p1B p2B p3B p4B p5B p6B pfB plB p0A p1A p2A p3A p4A p5A p6A p7A p8A pfA plA plX HI5 HZ5 HS5 HB5
      obtain ⟨bb, kk, ⟨sg15, sz15⟩, rr⟩ := row_app (S := fun b => w5.heap.size ≤ b) (xr := xr15) ((PL_14.out.sub (S' := fun b => w5.heap.size ≤ b) (fun b hb => by show w5.heap.size ≤ b; omega))) OB.out GB.out TB.out rfl hltX BB_14.out (hne15.out) (hxo15) (by show w5.heap.size ≤ _; simp only [World.size_alloc]; omega) hS
      have sg15 : w5.heap.size ≤ g15 := sg15
      have z15 : w14.heap.size ≤ w15.heap.size := kk.size
      have K15 : Hid (Kq br w w15) := K14.out.comp2 kk (by omega) (by omega)
      have X15 : Hid (Sx br s w15 c13 m13) := kk.sx (by omega) (by omega) X14.out
      have KK := hI kk
      have RR := hI rr
      have BB_15 : Hid (w15.heap[w.heap.size]? = some (.cells #[.int .i64 4, .int .i64 a0, .bool false, .string ⟨#[]⟩, .slice (some ⟨g5, 0, none⟩) (1) cap5, .slice none 0 0, .slice (some ⟨g15, 0, none⟩) (es.length + 1) cap15] 93)) := bb
      clear hS bb kk rr hltX OB GB TB X14 K14
      have PM_15 : Hid (c13 = 0 → ∃ xs : List (ArmD), Rw elA (fun b => w5.heap.size ≤ b) (w5.heap.size) w15 (.slice (some ⟨g15, 0, none⟩) (es.length + 1) cap15) xs ∧ (xs.length + m13 ≤ m4 ∧ (spaced (xs.map armTxt)).length ≤ 64 * (m4 - m13) ∧ ∀ d ∈ xs, d.dflt = false → 1 ≤ d.labels.length)) := by
       intro hc
       obtain ⟨t, hp, hl⟩ := P13_14.out hc
       obtain ⟨hc0, hm13⟩ := A13.out.2 hc
       obtain ⟨hl0, hdf⟩ := HLL.out
       refine ⟨es ++ [(⟨true, [], .slice none 0 0, [.int .i64 k13, .int .i64 a13, .bool lt13, .string nm13, .slice xa13 xl13 xc13, .slice sa13 sl13 sc13, .slice aa13 al13 ac13], t⟩ : ArmD)], RR.out [(⟨true, [], .slice none 0 0, [.int .i64 k13, .int .i64 a13, .bool lt13, .string nm13, .slice xa13 xl13 xc13, .slice sa13 sl13 sc13, .slice aa13 al13 ac13], t⟩ : ArmD)] (by simp) (by simp [elA, armCells]) rfl ?_ (by show ¬ (w5.heap.size ≤ _); omega), ?_⟩
       ·intro y hy
        rw [List.mem_singleton] at hy
        subst hy
        refine ⟨?_, ?_⟩
        ·exact ⟨row_nil, fun x h => by cases h⟩
        ·refine elS.mono (x := ([.int .i64 k13, .int .i64 a13, .bool lt13, .string nm13, .slice xa13 xl13 xc13, .slice sa13 sl13 sc13, .slice aa13 al13 ac13], t)) ?_ (fun _ _ _ _ hu => hu) hp
         intro b hb
         have h1 : w9.heap.size ≤ b ∧ b < w13.heap.size := hb
         exact ⟨by show w5.heap.size ≤ b; omega, Rw.not_own PL_14.out (by show ¬ (w5.heap.size ≤ b ∧ b < wo.heap.size); omega)⟩
       ·rw [lnA, List.map_append, List.map_cons, List.map_nil, spaced_snoc]
        refine ⟨?_, ?_, ?_⟩
        ·simp only [lnC, lnN]; omega
        ·simp only [armTxt, lnA, lnC, lnN, if_true]
         omega
        ·intro y hy hd
         rcases List.mem_append.1 hy with hy | hy
         ·exact hdf y hy hd
         ·rw [List.mem_singleton] at hy
          subst hy
          cases hd
      clear BA_14
      clear PL_14
      clear P13_14
      have BR_15 := hI (KK.out.get (by omega) (by omega) BR_14.out)
      have PX_15 := hI (rw_to PX_14.out (fun k o hb h => KK.out.get (by omega) (by omega) h))
      clear BR_14 PX_14
      clear KK RR BB_14
      go_roundg (meas c13 m13)
      case measure => have hAd : Adv 0 mr c13 m13 := Adv.trans (⟨Nat.le_of_lt hm8, fun _ => ⟨rfl, hm8⟩⟩) (Adv.trans (⟨Nat.le_of_lt hm9, fun _ => ⟨rfl, hm9⟩⟩) (A13.out)); have := meas_next hAd; omega
      case rel => exact ⟨_, c13, m13, _, _, _, rfl, rfl, X15, K15, BR_15, BB_15, by omega, PX_15, PM_15, by have hAd : Adv 0 mr c13 m13 := Adv.trans (⟨Nat.le_of_lt hm8, fun _ => ⟨rfl, hm8⟩⟩) (Adv.trans (⟨Nat.le_of_lt hm9, fun _ => ⟨rfl, hm9⟩⟩) (A13.out)); have := hAd.1; omega, (fun _ => HC4.out : Hid _)⟩
     go_wp2_with fail
     have HL : Hid (meas 0 m8 < M) := by
      have hm1 := hM1.out
      show _ < _
      unfold meas
      split <;> omega
     refine (HI.out _ HL.out br s 0 m8 w8 X8.out (Nat.le_refl _)).mono ?_
     rintro e w13 ⟨k13, a13, lt13, nm13, xa13, xl13, xc13, sa13, sl13, sc13, aa13, al13, ac13, rfl, hk, c13, m13, hx, ha, hp⟩
     have z13 : w8.heap.size ≤ w13.heap.size := hk.size
     have KK := hI hk
     have K13 : Hid (Kq br w w13) := K8.out.trans hk
     have X13 := hI hx
     have A13 := hI ha
     have P13_13 := hI (ps_born hp)
     clear hk hx ha hp
     have BB_13 := hI (KK.out.get (by omega) BB_8.out)
     have BR_13 := hI (KK.out.get (by omega) BR_8.out)
     have BA_13 := hI (KK.out.get (by omega) BA_8.out)
     have PX_13 := hI (rw_to PX_8.out (fun k o hb h => KK.out.get (by omega) h))
     have PL_13 := hI (Rw.to PL_8.out (fun k o hb h => KK.out.get (by omega) h))
     clear BB_8 BR_8 BA_8 PX_8 PL_8
     clear KK
     clear HL
     obtain ⟨p0A, p1A, p2A, p3A, p4A, p5A, p6A, p7A, p8A, pfA, plA⟩ := bx9 BA_13.out
     go_upto_region 23 with fail
     generalize hS : (((((((w13.setCell ⟨wo.heap.size, 2, none⟩ (.int .i64 k13)).setCell ⟨wo.heap.size, 3, none⟩ (.int .i64 a13)).setCell ⟨wo.heap.size, 4, none⟩ (.bool lt13)).setCell ⟨wo.heap.size, 5, none⟩ (.string nm13)).setCell ⟨wo.heap.size, 6, none⟩ (.slice xa13 xl13 xc13)).setCell ⟨wo.heap.size, 7, none⟩ (.slice sa13 sl13 sc13)).setCell ⟨wo.heap.size, 8, none⟩ (.slice aa13 al13 ac13)) = w14
     clear p0A p1A p2A p3A p4A p5A p6A p7A p8A pfA plA
     have hS2 : setFrom w13 (wo.heap.size) 2 [.int .i64 k13, .int .i64 a13, .bool lt13, .string nm13, .slice xa13 xl13 xc13, .slice sa13 sl13 sc13, .slice aa13 al13 ac13] = w14 := hS
     obtain ⟨bb, zz, oo, kk, xx⟩ := set_boxN hS2 BA_13.out
     have z14 : w13.heap.size ≤ w14.heap.size := by omega
     have K14 : Hid (Kq br w w14) := kk br w K13.out (by omega)
     have X14 : Hid (Sx br s w14 c13 m13) := xx br s c13 m13 X13.out (by omega)
     have BA_14 : Hid (w14.heap[wo.heap.size]? = some (.cells #[.bool true, .slice none 0 0, .int .i64 k13, .int .i64 a13, .bool lt13, .string nm13, .slice xa13 xl13 xc13, .slice sa13 sl13 sc13, .slice aa13 al13 ac13] 127)) := bb
     clear X13 K13 BA_13
     have BB_14 := hI ((oo _ (by omega)).trans BB_13.out)
     have BR_14 := hI ((oo _ (by omega)).trans BR_13.out)
     have PX_14 := hI (rw_to PX_13.out (fun k o hb h => (oo k (by omega)).trans h))
     have PL_14 := hI (Rw.to PL_13.out (fun k o hb h => (oo k (by omega)).trans h))
     have P13_14 := hI (ps_to P13_13.out (fun k o hb h => (oo k (by omega)).trans h))
     clear BB_13 BR_13 PX_13 PL_13 P13_13
     clear hS hS2 bb zz oo kk xx
     obtain ⟨p0B, p1B, p2B, p3B, p4B, p5B, p6B, pfB, plB⟩ := bx BB_14.out
     obtain ⟨p0A, p1A, p2A, p3A, p4A, p5A, p6A, p7A, p8A, pfA, plA⟩ := bx9 BA_14.out
     obtain ⟨xr15, hxo15, hxS15⟩ := Rw.own ((PL_14.out.sub (S' := fun b => w5.heap.size ≤ b) (fun b hb => by show w5.heap.size ≤ b; omega))) (x0 := w14.heap.size) (by show w5.heap.size ≤ w14.heap.size; omega)
     have hxS15 : w5.heap.size ≤ xr15 := hxS15
     have hne15 := hI (Rw.not_own ((PL_14.out.sub (S' := fun b => w5.heap.size ≤ b) (fun b hb => by show w5.heap.size ≤ b; omega))) (b := w.heap.size) (by show ¬ (w5.heap.size ≤ w.heap.size); omega))
     obtain ⟨i5, hi, hzz, hsz, hby⟩ := info127'
     have HI5 := hI hi
     have HZ5 := hI hzz
     have HS5 := hI hsz
     have HB5 := hI hby
     clear hi hzz hsz hby
     go_wp2_with (at_builtin; refine wpList_append_lies _ rfl (.tmp 70) (.tmp 72) 91 rfl (w5.heap.size) 127 i5 _ 9 144 Tryz.underlying91 HI5.out HZ5.out HS5.out HB5.out rfl (by decide) (.slice sa sl sc) (es.length) _ rfl (Rw.alloc ((PL_14.out.sub (S' := fun b => w5.heap.size ≤ b) (fun b hb => by show w5.heap.size ≤ b; omega))) _).1 ⟨w14.heap.size, 0, none⟩ 1 1 [.bool true, .slice none 0 0, .int .i64 k13, .int .i64 a13, .bool lt13, .string nm13, .slice xa13 xl13 xc13, .slice sa13 sl13 sc13, .slice aa13 al13 ac13] rfl rfl (new_cells _ _ _) nine_one (by decide) (by simp only [maxLen]; omega) (by omega) (by simp; omega) _ rfl ?_; intro g15 cap15 w615 hownX hgrowX hatX hltX; have eX := (hgrowX.block (w.heap.size) (by have := heap_lt BB_14.out; simp; omega) (hne15.out)).trans ((Below.heap_alloc _ _ _ (heap_lt BB_14.out)).trans BB_14.out); have OB := hI hownX; have GB := hI hgrowX; have TB := hI hatX; clear hownX hgrowX hatX; obtain ⟨p0B, p1B, p2B, p3B, p4B, p5B, p6B, pfB, plX⟩ := bx eX; clear eX)
     generalize hS : w615.setCell ⟨w.heap.size, 6, none⟩ _ = w15
     clear p0B p1B p2B p3B p4B p5B p6B pfB plB p0A p1A p2A p3A p4A p5A p6A p7A p8A pfA plA plX HI5 HZ5 HS5 HB5
     obtain ⟨bb, kk, ⟨sg15, sz15⟩, rr⟩ := row_app (S := fun b => w5.heap.size ≤ b) (xr := xr15) ((PL_14.out.sub (S' := fun b => w5.heap.size ≤ b) (fun b hb => by show w5.heap.size ≤ b; omega))) OB.out GB.out TB.out rfl hltX BB_14.out (hne15.out) (hxo15) (by show w5.heap.size ≤ _; simp only [World.size_alloc]; omega) hS
     have sg15 : w5.heap.size ≤ g15 := sg15
     have z15 : w14.heap.size ≤ w15.heap.size := kk.size
     have K15 : Hid (Kq br w w15) := K14.out.comp2 kk (by omega) (by omega)
     have X15 : Hid (Sx br s w15 c13 m13) := kk.sx (by omega) (by omega) X14.out
     have KK := hI kk
     have RR := hI rr
     have BB_15 : Hid (w15.heap[w.heap.size]? = some (.cells #[.int .i64 4, .int .i64 a0, .bool false, .string ⟨#[]⟩, .slice (some ⟨g5, 0, none⟩) (1) cap5, .slice none 0 0, .slice (some ⟨g15, 0, none⟩) (es.length + 1) cap15] 93)) := bb
     clear hS bb kk rr hltX OB GB TB X14 K14
     have PM_15 : Hid (c13 = 0 → ∃ xs : List (ArmD), Rw elA (fun b => w5.heap.size ≤ b) (w5.heap.size) w15 (.slice (some ⟨g15, 0, none⟩) (es.length + 1) cap15) xs ∧ (xs.length + m13 ≤ m4 ∧ (spaced (xs.map armTxt)).length ≤ 64 * (m4 - m13) ∧ ∀ d ∈ xs, d.dflt = false → 1 ≤ d.labels.length)) := by
      intro hc
      obtain ⟨t, hp, hl⟩ := P13_14.out hc
      obtain ⟨hc0, hm13⟩ := A13.out.2 hc
      obtain ⟨hl0, hdf⟩ := HLL.out
      refine ⟨es ++ [(⟨true, [], .slice none 0 0, [.int .i64 k13, .int .i64 a13, .bool lt13, .string nm13, .slice xa13 xl13 xc13, .slice sa13 sl13 sc13, .slice aa13 al13 ac13], t⟩ : ArmD)], RR.out [(⟨true, [], .slice none 0 0, [.int .i64 k13, .int .i64 a13, .bool lt13, .string nm13, .slice xa13 xl13 xc13, .slice sa13 sl13 sc13, .slice aa13 al13 ac13], t⟩ : ArmD)] (by simp) (by simp [elA, armCells]) rfl ?_ (by show ¬ (w5.heap.size ≤ _); omega), ?_⟩
      ·intro y hy
       rw [List.mem_singleton] at hy
       subst hy
       refine ⟨?_, ?_⟩
       ·exact ⟨row_nil, fun x h => by cases h⟩
       ·refine elS.mono (x := ([.int .i64 k13, .int .i64 a13, .bool lt13, .string nm13, .slice xa13 xl13 xc13, .slice sa13 sl13 sc13, .slice aa13 al13 ac13], t)) ?_ (fun _ _ _ _ hu => hu) hp
        intro b hb
        have h1 : w8.heap.size ≤ b ∧ b < w13.heap.size := hb
        exact ⟨by show w5.heap.size ≤ b; omega, Rw.not_own PL_14.out (by show ¬ (w5.heap.size ≤ b ∧ b < wo.heap.size); omega)⟩
      ·rw [lnA, List.map_append, List.map_cons, List.map_nil, spaced_snoc]
       refine ⟨?_, ?_, ?_⟩
       ·simp only [lnC, lnN]; omega
       ·simp only [armTxt, lnA, lnC, lnN, if_true]
        omega
       ·intro y hy hd
        rcases List.mem_append.1 hy with hy | hy
        ·exact hdf y hy hd
        ·rw [List.mem_singleton] at hy
         subst hy
         cases hd
     clear BA_14
     clear PL_14
     clear P13_14
     have BR_15 := hI (KK.out.get (by omega) (by omega) BR_14.out)
     have PX_15 := hI (rw_to PX_14.out (fun k o hb h => KK.out.get (by omega) (by omega) h))
     clear BR_14 PX_14
     clear KK RR BB_14
     go_roundg (meas c13 m13)
     case measure => have hAd : Adv 0 mr c13 m13 := Adv.trans (⟨Nat.le_of_lt hm8, fun _ => ⟨rfl, hm8⟩⟩) (A13.out); have := meas_next hAd; omega
     case rel => exact ⟨_, c13, m13, _, _, _, rfl, rfl, X15, K15, BR_15, BB_15, by omega, PX_15, PM_15, by have hAd : Adv 0 mr c13 m13 := Adv.trans (⟨Nat.le_of_lt hm8, fun _ => ⟨rfl, hm8⟩⟩) (A13.out); have := hAd.1; omega, (fun _ => HC4.out : Hid _)⟩
    ·go_wp2_with fail
     generalize hS : w6.setCell ⟨wo.heap.size, 0, none⟩ _ = w7
     clear p0A p1A p2A p3A p4A p5A p6A p7A p8A pfA plA
     obtain ⟨bb, zz, oo, kk, xx⟩ := set_box hS BA_6.out
     have z7 : w6.heap.size ≤ w7.heap.size := by omega
     have K7 : Hid (Kq br w w7) := kk br w K6.out (by omega)
     have X7 : Hid (Sx br s w7 0 mr) := xx br s 0 mr X6.out (by omega)
     have BA_7 : Hid (w7.heap[wo.heap.size]? = some (.cells #[.bool true, .slice none 0 0, .int .i64 0, .int .i64 0, .bool false, .string ⟨#[]⟩, .slice none 0 0, .slice none 0 0, .slice none 0 0] 127)) := bb
     clear X6 K6 BA_6
     have BB_7 := hI ((oo _ (by omega)).trans BB_6.out)
     have BR_7 := hI ((oo _ (by omega)).trans BR_6.out)
     have PX_7 := hI (rw_to PX_6.out (fun k o hb h => (oo k (by omega)).trans h))
     have PL_7 := hI (Rw.to PL_6.out (fun k o hb h => (oo k (by omega)).trans h))
     clear BB_6 BR_6 PX_6 PL_6
     clear hS bb zz oo kk xx
     clear HST
     refine (fail_st X7.out).mono ?_
     rintro e w8 ⟨rfl, hk, c8, hc8, hx⟩
     have z8 : w7.heap.size ≤ w8.heap.size := hk.size
     have KK := hI hk
     have K8 : Hid (Kq br w w8) := K7.out.trans hk
     have X8 := hI hx
     clear hk hx
     have BB_8 := hI (KK.out.get (by omega) BB_7.out)
     have BR_8 := hI (KK.out.get (by omega) BR_7.out)
     have BA_8 := hI (KK.out.get (by omega) BA_7.out)
     have PX_8 := hI (rw_to PX_7.out (fun k o hb h => KK.out.get (by omega) h))
     have PL_8 := hI (Rw.to PL_7.out (fun k o hb h => KK.out.get (by omega) h))
     clear BB_7 BR_7 BA_7 PX_7 PL_7
     clear KK
     go_wp2_with fail
     refine (step_bad X8.out hc8).mono ?_
     rintro e w10 ⟨rfl, hk, hx⟩
     have z10 : w8.heap.size ≤ w10.heap.size := hk.size
     have KK := hI hk
     have K10 : Hid (Kq br w w10) := K8.out.trans hk
     have X10 := hI hx
     clear hk hx
     have BB_10 := hI (KK.out.get (by omega) BB_8.out)
     have BR_10 := hI (KK.out.get (by omega) BR_8.out)
     have BA_10 := hI (KK.out.get (by omega) BA_8.out)
     have PX_10 := hI (rw_to PX_8.out (fun k o hb h => KK.out.get (by omega) h))
     have PL_10 := hI (Rw.to PL_8.out (fun k o hb h => KK.out.get (by omega) h))
     clear BB_8 BR_8 BA_8 PX_8 PL_8
     clear KK
     go_wp2_with fail
     refine accept_alt X10.out _ ?_ ?_
     ·intro hc0 m9 w9 hm9 hk hx
      subst hc0
      have z9 : w10.heap.size ≤ w9.heap.size := hk.size
      have KK := hI hk
      have K9 : Hid (Kq br w w9) := K10.out.trans hk
      have X9 := hI hx
      clear hk hx X10 K10
      have BB_9 := hI (KK.out.get (by omega) BB_10.out)
      have BR_9 := hI (KK.out.get (by omega) BR_10.out)
      have BA_9 := hI (KK.out.get (by omega) BA_10.out)
      have PX_9 := hI (rw_to PX_10.out (fun k o hb h => KK.out.get (by omega) h))
      have PL_9 := hI (Rw.to PL_10.out (fun k o hb h => KK.out.get (by omega) h))
      clear BB_10 BR_10 BA_10 PX_10 PL_10
      clear KK
      exact absurd rfl hc8
     go_wp2_with fail
     have HL : Hid (meas c8 mr < M) := by
      have hm1 := hM1.out
      show _ < _
      unfold meas
      split <;> omega
     refine (HI.out _ HL.out br s c8 mr w10 X10.out (Nat.le_refl _)).mono ?_
     rintro e w13 ⟨k13, a13, lt13, nm13, xa13, xl13, xc13, sa13, sl13, sc13, aa13, al13, ac13, rfl, hk, c13, m13, hx, ha, hp⟩
     have z13 : w10.heap.size ≤ w13.heap.size := hk.size
     have KK := hI hk
     have K13 : Hid (Kq br w w13) := K10.out.trans hk
     have X13 := hI hx
     have A13 := hI ha
     have P13_13 := hI (ps_born hp)
     clear hk hx ha hp
     have BB_13 := hI (KK.out.get (by omega) BB_10.out)
     have BR_13 := hI (KK.out.get (by omega) BR_10.out)
     have BA_13 := hI (KK.out.get (by omega) BA_10.out)
     have PX_13 := hI (rw_to PX_10.out (fun k o hb h => KK.out.get (by omega) h))
     have PL_13 := hI (Rw.to PL_10.out (fun k o hb h => KK.out.get (by omega) h))
     clear BB_10 BR_10 BA_10 PX_10 PL_10
     clear KK
     clear HL
     obtain ⟨p0A, p1A, p2A, p3A, p4A, p5A, p6A, p7A, p8A, pfA, plA⟩ := bx9 BA_13.out
     go_upto_region 23 with fail
     generalize hS : (((((((w13.setCell ⟨wo.heap.size, 2, none⟩ (.int .i64 k13)).setCell ⟨wo.heap.size, 3, none⟩ (.int .i64 a13)).setCell ⟨wo.heap.size, 4, none⟩ (.bool lt13)).setCell ⟨wo.heap.size, 5, none⟩ (.string nm13)).setCell ⟨wo.heap.size, 6, none⟩ (.slice xa13 xl13 xc13)).setCell ⟨wo.heap.size, 7, none⟩ (.slice sa13 sl13 sc13)).setCell ⟨wo.heap.size, 8, none⟩ (.slice aa13 al13 ac13)) = w14
     clear p0A p1A p2A p3A p4A p5A p6A p7A p8A pfA plA
     have hS2 : setFrom w13 (wo.heap.size) 2 [.int .i64 k13, .int .i64 a13, .bool lt13, .string nm13, .slice xa13 xl13 xc13, .slice sa13 sl13 sc13, .slice aa13 al13 ac13] = w14 := hS
     obtain ⟨bb, zz, oo, kk, xx⟩ := set_boxN hS2 BA_13.out
     have z14 : w13.heap.size ≤ w14.heap.size := by omega
     have K14 : Hid (Kq br w w14) := kk br w K13.out (by omega)
     have X14 : Hid (Sx br s w14 c13 m13) := xx br s c13 m13 X13.out (by omega)
     have BA_14 : Hid (w14.heap[wo.heap.size]? = some (.cells #[.bool true, .slice none 0 0, .int .i64 k13, .int .i64 a13, .bool lt13, .string nm13, .slice xa13 xl13 xc13, .slice sa13 sl13 sc13, .slice aa13 al13 ac13] 127)) := bb
     clear X13 K13 BA_13
     have BB_14 := hI ((oo _ (by omega)).trans BB_13.out)
     have BR_14 := hI ((oo _ (by omega)).trans BR_13.out)
     have PX_14 := hI (rw_to PX_13.out (fun k o hb h => (oo k (by omega)).trans h))
     have PL_14 := hI (Rw.to PL_13.out (fun k o hb h => (oo k (by omega)).trans h))
     have P13_14 := hI (ps_to P13_13.out (fun k o hb h => (oo k (by omega)).trans h))
     clear BB_13 BR_13 PX_13 PL_13 P13_13
     clear hS hS2 bb zz oo kk xx
     obtain ⟨p0B, p1B, p2B, p3B, p4B, p5B, p6B, pfB, plB⟩ := bx BB_14.out
     obtain ⟨p0A, p1A, p2A, p3A, p4A, p5A, p6A, p7A, p8A, pfA, plA⟩ := bx9 BA_14.out
     obtain ⟨xr15, hxo15, hxS15⟩ := Rw.own ((PL_14.out.sub (S' := fun b => w5.heap.size ≤ b) (fun b hb => by show w5.heap.size ≤ b; omega))) (x0 := w14.heap.size) (by show w5.heap.size ≤ w14.heap.size; omega)
     have hxS15 : w5.heap.size ≤ xr15 := hxS15
     have hne15 := hI (Rw.not_own ((PL_14.out.sub (S' := fun b => w5.heap.size ≤ b) (fun b hb => by show w5.heap.size ≤ b; omega))) (b := w.heap.size) (by show ¬ (w5.heap.size ≤ w.heap.size); omega))
     obtain ⟨i5, hi, hzz, hsz, hby⟩ := info127'
     have HI5 := hI hi
     have HZ5 := hI hzz
     have HS5 := hI hsz
     have HB5 := hI hby
     clear hi hzz hsz hby
     go_wp2_with (at_builtin; refine wpList_append_lies _ rfl (.tmp 70) (.tmp 72) 91 rfl (w5.heap.size) 127 i5 _ 9 144 Tryz.underlying91 HI5.out HZ5.out HS5.out HB5.out rfl (by decide) (.slice sa sl sc) (es.length) _ rfl (Rw.alloc ((PL_14.out.sub (S' := fun b => w5.heap.size ≤ b) (fun b hb => by show w5.heap.size ≤ b; omega))) _).1 ⟨w14.heap.size, 0, none⟩ 1 1 [.bool true, .slice none 0 0, .int .i64 k13, .int .i64 a13, .bool lt13, .string nm13, .slice xa13 xl13 xc13, .slice sa13 sl13 sc13, .slice aa13 al13 ac13] rfl rfl (new_cells _ _ _) nine_one (by decide) (by simp only [maxLen]; omega) (by omega) (by simp; omega) _ rfl ?_; intro g15 cap15 w615 hownX hgrowX hatX hltX; have eX := (hgrowX.block (w.heap.size) (by have := heap_lt BB_14.out; simp; omega) (hne15.out)).trans ((Below.heap_alloc _ _ _ (heap_lt BB_14.out)).trans BB_14.out); have OB := hI hownX; have GB := hI hgrowX; have TB := hI hatX; clear hownX hgrowX hatX; obtain ⟨p0B, p1B, p2B, p3B, p4B, p5B, p6B, pfB, plX⟩ := bx eX; clear eX)
     generalize hS : w615.setCell ⟨w.heap.size, 6, none⟩ _ = w15
     clear p0B p1B p2B p3B p4B p5B p6B pfB plB p0A p1A p2A p3A p4A p5A p6A p7A p8A pfA plA plX HI5 HZ5 HS5 HB5
     obtain ⟨bb, kk, ⟨sg15, sz15⟩, rr⟩ := row_app (S := fun b => w5.heap.size ≤ b) (xr := xr15) ((PL_14.out.sub (S' := fun b => w5.heap.size ≤ b) (fun b hb => by show w5.heap.size ≤ b; omega))) OB.out GB.out TB.out rfl hltX BB_14.out (hne15.out) (hxo15) (by show w5.heap.size ≤ _; simp only [World.size_alloc]; omega) hS
     have sg15 : w5.heap.size ≤ g15 := sg15
     have z15 : w14.heap.size ≤ w15.heap.size := kk.size
     have K15 : Hid (Kq br w w15) := K14.out.comp2 kk (by omega) (by omega)
     have X15 : Hid (Sx br s w15 c13 m13) := kk.sx (by omega) (by omega) X14.out
     have KK := hI kk
     have RR := hI rr
     have BB_15 : Hid (w15.heap[w.heap.size]? = some (.cells #[.int .i64 4, .int .i64 a0, .bool false, .string ⟨#[]⟩, .slice (some ⟨g5, 0, none⟩) (1) cap5, .slice none 0 0, .slice (some ⟨g15, 0, none⟩) (es.length + 1) cap15] 93)) := bb
     clear hS bb kk rr hltX OB GB TB X14 K14
     have PM_15 : Hid (c13 = 0 → ∃ xs : List (ArmD), Rw elA (fun b => w5.heap.size ≤ b) (w5.heap.size) w15 (.slice (some ⟨g15, 0, none⟩) (es.length + 1) cap15) xs ∧ (xs.length + m13 ≤ m4 ∧ (spaced (xs.map armTxt)).length ≤ 64 * (m4 - m13) ∧ ∀ d ∈ xs, d.dflt = false → 1 ≤ d.labels.length)) := by
      intro hc
      obtain ⟨t, hp, hl⟩ := P13_14.out hc
      obtain ⟨hc0, hm13⟩ := A13.out.2 hc
      obtain ⟨hl0, hdf⟩ := HLL.out
      exact absurd hc0 hc8
     clear BA_14
     clear PL_14
     clear P13_14
     have BR_15 := hI (KK.out.get (by omega) (by omega) BR_14.out)
     have PX_15 := hI (rw_to PX_14.out (fun k o hb h => KK.out.get (by omega) (by omega) h))
     clear BR_14 PX_14
     clear KK RR BB_14
     go_roundg (meas c13 m13)
     case measure => have hAd : Adv 0 mr c13 m13 := ⟨A13.out.1, fun e => absurd (A13.out.2 e).1 hc8⟩; have := meas_next hAd; omega
     case rel => exact ⟨_, c13, m13, _, _, _, rfl, rfl, X15, K15, BR_15, BB_15, by omega, PX_15, PM_15, by have hAd : Adv 0 mr c13 m13 := ⟨A13.out.1, fun e => absurd (A13.out.2 e).1 hc8⟩; have := hAd.1; omega, (fun _ => HC4.out : Hid _)⟩
   ·obtain ⟨p0A, p1A, p2A, p3A, p4A, p5A, p6A, p7A, p8A, pfA, plA⟩ := bx9 BA_6.out
    go_wp2_with fail
    generalize hS : w6.setCell ⟨wo.heap.size, 0, none⟩ _ = w7
    clear p0A p1A p2A p3A p4A p5A p6A p7A p8A pfA plA
    obtain ⟨bb, zz, oo, kk, xx⟩ := set_box hS BA_6.out
    have z7 : w6.heap.size ≤ w7.heap.size := by omega
    have K7 : Hid (Kq br w w7) := kk br w K6.out (by omega)
    have X7 : Hid (Sx br s w7 0 mr) := xx br s 0 mr X6.out (by omega)
    have BA_7 : Hid (w7.heap[wo.heap.size]? = some (.cells #[.bool false, .slice none 0 0, .int .i64 0, .int .i64 0, .bool false, .string ⟨#[]⟩, .slice none 0 0, .slice none 0 0, .slice none 0 0] 127)) := bb
    clear X6 K6 BA_6
    have BB_7 := hI ((oo _ (by omega)).trans BB_6.out)
    have BR_7 := hI ((oo _ (by omega)).trans BR_6.out)
    have PX_7 := hI (rw_to PX_6.out (fun k o hb h => (oo k (by omega)).trans h))
    have PL_7 := hI (Rw.to PL_6.out (fun k o hb h => (oo k (by omega)).trans h))
    clear BB_6 BR_6 PX_6 PL_6
    clear hS bb zz oo kk xx
    refine (expr_read X7.out).mono ?_
    rintro e w8 ⟨k8, a8, op8, wd8, n8, nm8, sa8, sl8, sc8, rfl, hk, c8, m8, hx, ha, hp⟩
    have z8 : w7.heap.size ≤ w8.heap.size := hk.size
    have KK := hI hk
    have K8 : Hid (Kq br w w8) := K7.out.trans hk
    have X8 := hI hx
    have A8 := hI ha
    have P8_8 := hI (pe_born hp)
    clear hk hx ha hp
    have BB_8 := hI (KK.out.get (by omega) BB_7.out)
    have BR_8 := hI (KK.out.get (by omega) BR_7.out)
    have BA_8 := hI (KK.out.get (by omega) BA_7.out)
    have PX_8 := hI (rw_to PX_7.out (fun k o hb h => KK.out.get (by omega) h))
    have PL_8 := hI (Rw.to PL_7.out (fun k o hb h => KK.out.get (by omega) h))
    clear BB_7 BR_7 BA_7 PX_7 PL_7
    clear KK
    go_upto_region 17 with fail
    generalize hWW : w8.alloc (.cells _ 55) = w9
    obtain ⟨zz, bb, oo, kk⟩ := one_box hWW
    have z9 : w8.heap.size < w9.heap.size := by omega
    have K9 : Hid (Kq br w w9) := K8.out.trans (kk br).out
    have X9 : Hid (Sx br s w9 c8 m8) := X8.out.to (oo br X8.out.lt)
    clear X8 K8
    have BB_9 := hI ((oo _ (heap_lt BB_8.out)).trans BB_8.out)
    have BR_9 := hI ((oo _ (heap_lt BR_8.out)).trans BR_8.out)
    have BA_9 := hI ((oo _ (heap_lt BA_8.out)).trans BA_8.out)
    have PX_9 := hI (rw_to PX_8.out (fun k o hb h => (oo k (heap_lt h)).trans h))
    have PL_9 := hI (Rw.to PL_8.out (fun k o hb h => (oo k (heap_lt h)).trans h))
    have P8_9 := hI (pe_to P8_8.out (fun k o hb h => (oo k (heap_lt h)).trans h))
    clear BB_8 BR_8 BA_8 PX_8 PL_8 P8_8
    have BT_9 : Hid (w9.heap[w8.heap.size]? = some (.cells #[.int .i64 k8, .int .i64 a8, .int .i64 op8, .int .i64 wd8, .int .u64 n8, .string nm8, .slice sa8 sl8 sc8] 55)) := bb
    clear hWW zz oo kk bb
    obtain ⟨p0A, p1A, p2A, p3A, p4A, p5A, p6A, p7A, p8A, pfA, plA⟩ := bx9 BA_9.out
    obtain ⟨p0T, p1T, p2T, p3T, p4T, p5T, p6T, pfT, plT⟩ := bx BT_9.out
    obtain ⟨i5, hi, hzz, hsz, hby⟩ := info55'
    have HI5 := hI hi
    have HZ5 := hI hzz
    have HS5 := hI hsz
    have HB5 := hI hby
    clear hi hzz hsz hby
    go_wp2_with (at_builtin; refine wpList_append_lies _ rfl (.tmp 49) (.tmp 51) 53 rfl (w6.heap.size) 55 i5 _ 7 80 Tryz.underlying53 HI5.out HZ5.out HS5.out HB5.out rfl (by decide) (.slice none 0 0) (0) _ rfl (Rw.alloc (Rw.nil elE (fun b => w6.heap.size ≤ b ∧ b ≠ w8.heap.size) w6.heap.size w9) _).1 ⟨w9.heap.size, 0, none⟩ 1 1 [.int .i64 k8, .int .i64 a8, .int .i64 op8, .int .i64 wd8, .int .u64 n8, .string nm8, .slice sa8 sl8 sc8] rfl rfl (new_cells _ _ _) seven_one (by decide) (by decide) (by decide) (by simp; omega) _ rfl ?_; intro g10 cap10 w610 hownX hgrowX hatX hltX; have eX := (hgrowX.block (wo.heap.size) (by have := heap_lt BA_9.out; simp; omega) (by simp [Value.ownBlock])).trans ((Below.heap_alloc _ _ _ (heap_lt BA_9.out)).trans BA_9.out); have OB := hI hownX; have GB := hI hgrowX; have TB := hI hatX; clear hownX hgrowX hatX; obtain ⟨p0A, p1A, p2A, p3A, p4A, p5A, p6A, p7A, p8A, pfA, plX⟩ := bx9 eX; clear eX)
    generalize hS : w610.setCell ⟨wo.heap.size, 1, none⟩ _ = w10
    clear p0A p1A p2A p3A p4A p5A p6A p7A p8A pfA plA p0T p1T p2T p3T p4T p5T p6T pfT plT plX HI5 HZ5 HS5 HB5
    obtain ⟨bb, kk, ⟨sg10, sz10⟩, rr⟩ := row_app (S := fun b => w6.heap.size ≤ b ∧ b ≠ w8.heap.size) (xr := wo.heap.size) (Rw.nil elE (fun b => w6.heap.size ≤ b ∧ b ≠ w8.heap.size) w6.heap.size w9) OB.out GB.out TB.out rfl hltX BA_9.out (by simp [Value.ownBlock]) (.inl rfl) (by show w6.heap.size ≤ _ ∧ _ ≠ w8.heap.size; simp only [World.size_alloc]; omega) hS
    have sg10 : w6.heap.size ≤ g10 ∧ g10 ≠ w8.heap.size := sg10
    have z10 : w9.heap.size ≤ w10.heap.size := kk.size
    have K10 : Hid (Kq br w w10) := K9.out.comp2 kk (by omega) (by omega)
    have X10 : Hid (Sx br s w10 c8 m8) := kk.sx (by omega) (by omega) X9.out
    have KK := hI kk
    have RR := hI rr
    have BA_10 : Hid (w10.heap[wo.heap.size]? = some (.cells #[.bool false, .slice (some ⟨g10, 0, none⟩) (1) cap10, .int .i64 0, .int .i64 0, .bool false, .string ⟨#[]⟩, .slice none 0 0, .slice none 0 0, .slice none 0 0] 127)) := bb
    clear hS bb kk rr hltX OB GB TB X9 K9
    have PQ_10 : Hid (c8 = 0 → ∃ xs : List (Ele), Rw elE (fun b => w6.heap.size ≤ b ∧ b ≠ w8.heap.size) (w6.heap.size) w10 (.slice (some ⟨g10, 0, none⟩) (1) cap10) xs ∧ (1 ≤ xs.length ∧ xs.length + m8 ≤ mr ∧ (commaTxt (xs.map (fun x : Ele => x.2.2))).length ≤ 64 * (mr - m8))) := by
     intro hc
     obtain ⟨t, hp, hl⟩ := P8_9.out hc
     have hm := (A8.out.2 hc).2
     refine ⟨[(k8, [.int .i64 k8, .int .i64 a8, .int .i64 op8, .int .i64 wd8, .int .u64 n8, .string nm8, .slice sa8 sl8 sc8], t)], RR.out [(k8, [.int .i64 k8, .int .i64 a8, .int .i64 op8, .int .i64 wd8, .int .u64 n8, .string nm8, .slice sa8 sl8 sc8], t)] (by simp) (by simp [elE]) rfl ?_ (by show ¬ (w6.heap.size ≤ _ ∧ _ ≠ w8.heap.size); omega), by simp, by simp only [lnC, lnN]; omega, by simp only [List.map_cons, List.map_nil, commaTxt]; omega⟩
     intro y hy
     rw [List.mem_singleton] at hy
     subst hy
     refine elE.mono ?_ (fun _ _ _ _ hu => hu) hp
     intro b hb
     have h1 : w7.heap.size ≤ b ∧ b < w8.heap.size := hb
     exact ⟨by show w6.heap.size ≤ b ∧ b ≠ w8.heap.size; omega, by simp [Value.ownBlock]⟩
    clear P8_9
    have BB_10 := hI (KK.out.get (by omega) (by omega) BB_9.out)
    have BR_10 := hI (KK.out.get (by omega) (by omega) BR_9.out)
    have BT_10 := hI (KK.out.get (by omega) (by omega) BT_9.out)
    have PX_10 := hI (rw_to PX_9.out (fun k o hb h => KK.out.get (by omega) (by omega) h))
    have PL_10 := hI (Rw.to PL_9.out (fun k o hb h => KK.out.get (by omega) (by omega) h))
    clear BB_9 BR_9 BT_9 PX_9 PL_9
    clear KK RR BA_9
    go_loopg [55] m8 (fun gk _ wr => ∃ (ci : Int) (mi : Nat) (la : Option Addr) (ll lc : Nat) (kT aT opT wdT nT : Int) (nmT : ByteArray) (saT : Option Addr) (slT scT : Nat), gk = mi ∧ Hid (Sx br s wr ci mi) ∧ Hid (Kq br w wr) ∧ Hid (wr.heap[(w.heap.size + 1)]? = some (.cells #[.int .i64 0, .int .i64 0, .bool false, .string ⟨#[]⟩, .slice none 0 0, .slice none 0 0, .slice none 0 0] 93)) ∧ Hid (wr.heap[w.heap.size]? = some (.cells #[.int .i64 4, .int .i64 a0, .bool false, .string ⟨#[]⟩, .slice (some ⟨g5, 0, none⟩) (1) cap5, .slice none 0 0, .slice sa sl sc] 93)) ∧ Hid (wr.heap[wo.heap.size]? = some (.cells #[.bool false, .slice la ll lc, .int .i64 0, .int .i64 0, .bool false, .string ⟨#[]⟩, .slice none 0 0, .slice none 0 0, .slice none 0 0] 127)) ∧ Hid (wr.heap[w8.heap.size]? = some (.cells #[.int .i64 kT, .int .i64 aT, .int .i64 opT, .int .i64 wdT, .int .u64 nT, .string nmT, .slice saT slT scT] 55)) ∧ w10.heap.size ≤ wr.heap.size ∧ Hid (c2 = 0 → ∃ xs : List Ele, Rw elE (fun b => (w0.heap.size ≤ b ∧ b ≠ w2.heap.size) ∧ b < w5.heap.size) w0.heap.size wr (.slice (some ⟨g5, 0, none⟩) (1) cap5) xs ∧ (∃ t, xs = [(k2, [.int .i64 k2, .int .i64 a2, .int .i64 op2, .int .i64 wd2, .int .u64 n2, .string nm2, .slice sa2 sl2 sc2], t)] ∧ t.length ≤ 64 * (m1 - m2))) ∧ Hid (Rw elA (fun b => w5.heap.size ≤ b ∧ b < wo.heap.size) w5.heap.size wr (.slice sa sl sc) es) ∧ Hid (ci = 0 → ∃ xs : List Ele, Rw elE (fun b => w6.heap.size ≤ b ∧ b ≠ w8.heap.size) w6.heap.size wr (.slice la ll lc) xs ∧ (1 ≤ xs.length ∧ xs.length + mi ≤ mr ∧ (commaTxt (xs.map (fun x : Ele => x.2.2))).length ≤ 64 * (mr - mi))) ∧ mi ≤ m8 ∧ Hid (ci = 0 → c8 = 0))
    case atStart => exact ⟨c8, m8, _, _, _, _, _, _, _, _, _, _, _, _, rfl, X10, K10, BR_10, BB_10, BA_10, BT_10, Nat.le_refl _, PX_10, PL_10, PQ_10, Nat.le_refl _, (fun h => h : Hid _)⟩
    case round =>
     obtain ⟨ci, mi, la, ll, lc, kT, aT, opT, wdT, nT, nmT, saT, slT, scT, hgi, XI, KI, BR_i, BB_i, BA_i, BT_i, zI, PX_i, PL_i, PQ_i, hmi, HCI⟩ := hrel
     clear X10 K10 BR_10 BB_10 BA_10 BT_10 PX_10 PL_10 PQ_10
     go_wp2_with fail
     refine accept_alt XI.out _ ?_ ?_
     ·intro hc0 m11 w11 hm11 hk hx
      subst hc0
      have z11 : wr.heap.size ≤ w11.heap.size := hk.size
      have KK := hI hk
      have K11 : Hid (Kq br w w11) := KI.out.trans hk
      have X11 := hI hx
      clear hk hx XI KI
      have BB_11 := hI (KK.out.get (by omega) BB_i.out)
      have BR_11 := hI (KK.out.get (by omega) BR_i.out)
      have BA_11 := hI (KK.out.get (by omega) BA_i.out)
      have BT_11 := hI (KK.out.get (by omega) BT_i.out)
      have PX_11 := hI (rw_to PX_i.out (fun k o hb h => KK.out.get (by omega) h))
      have PL_11 := hI (Rw.to PL_i.out (fun k o hb h => KK.out.get (by omega) h))
      have PQ_11 := hI (rw_to PQ_i.out (fun k o hb h => KK.out.get (by omega) h))
      clear BB_i BR_i BA_i BT_i PX_i PL_i PQ_i
      clear KK
      obtain ⟨es2, hR2, hn1, hn2, hl2⟩ := PQ_11.out rfl
      have HQ := hI hR2
      have HLQ := hI hl2
      clear hR2 hl2 PQ_11
      obtain ⟨g0, rfl, rfl, hgL, hgS, hg8⟩ := HQ.out.form hn1
      have hgS : w6.heap.size ≤ g0 ∧ g0 ≠ w8.heap.size := hgS
      have HQs := hI HQ.out.strong
      clear HQ
      go_wp2_with fail
      refine (expr_read X11.out).mono ?_
      rintro e w12 ⟨k12, a12, op12, wd12, n12, nm12, sa12, sl12, sc12, rfl, hk, c12, m12, hx, ha, hp⟩
      have z12 : w11.heap.size ≤ w12.heap.size := hk.size
      have KK := hI hk
      have K12 : Hid (Kq br w w12) := K11.out.trans hk
      have X12 := hI hx
      have A12 := hI ha
      have P12_12 := hI (pe_born hp)
      clear hk hx ha hp
      have BB_12 := hI (KK.out.get (by omega) BB_11.out)
      have BR_12 := hI (KK.out.get (by omega) BR_11.out)
      have BA_12 := hI (KK.out.get (by omega) BA_11.out)
      have BT_12 := hI (KK.out.get (by omega) BT_11.out)
      have PX_12 := hI (rw_to PX_11.out (fun k o hb h => KK.out.get (by omega) h))
      have PL_12 := hI (Rw.to PL_11.out (fun k o hb h => KK.out.get (by omega) h))
      have PQ_12 := hI (Rw.to HQs.out (fun k o hb h => KK.out.get (by omega) h))
      clear BB_11 BR_11 BA_11 BT_11 PX_11 PL_11 HQs
      clear KK
      obtain ⟨p0T, p1T, p2T, p3T, p4T, p5T, p6T, pfT, plT⟩ := bx BT_12.out
      go_upto_region 20 with fail
      generalize hS : (((((((w12.setCell ⟨w8.heap.size, 0, none⟩ (.int .i64 k12)).setCell ⟨w8.heap.size, 1, none⟩ (.int .i64 a12)).setCell ⟨w8.heap.size, 2, none⟩ (.int .i64 op12)).setCell ⟨w8.heap.size, 3, none⟩ (.int .i64 wd12)).setCell ⟨w8.heap.size, 4, none⟩ (.int .u64 n12)).setCell ⟨w8.heap.size, 5, none⟩ (.string nm12)).setCell ⟨w8.heap.size, 6, none⟩ (.slice sa12 sl12 sc12)) = w13
      clear p0T p1T p2T p3T p4T p5T p6T pfT plT
      have hS2 : set7 w12 (w8.heap.size) (.int .i64 k12) (.int .i64 a12) (.int .i64 op12) (.int .i64 wd12) (.int .u64 n12) (.string nm12) (.slice sa12 sl12 sc12) = w13 := hS
      obtain ⟨bb, zz, oo, kk⟩ := box7 hS2 BT_12.out
      have z13 : w12.heap.size ≤ w13.heap.size := by omega
      have K13 : Hid (Kq br w w13) := kk br w K12.out (by omega)
      have X13 : Hid (Sx br s w13 c12 m12) := X12.out.to (oo br (by omega))
      have BT_13 : Hid (w13.heap[w8.heap.size]? = some (.cells #[.int .i64 k12, .int .i64 a12, .int .i64 op12, .int .i64 wd12, .int .u64 n12, .string nm12, .slice sa12 sl12 sc12] 55)) := bb
      clear X12 K12 BT_12
      have BB_13 := hI ((oo _ (by omega)).trans BB_12.out)
      have BR_13 := hI ((oo _ (by omega)).trans BR_12.out)
      have BA_13 := hI ((oo _ (by omega)).trans BA_12.out)
      have PX_13 := hI (rw_to PX_12.out (fun k o hb h => (oo k (by omega)).trans h))
      have PL_13 := hI (Rw.to PL_12.out (fun k o hb h => (oo k (by omega)).trans h))
      have PQ_13 := hI (Rw.to PQ_12.out (fun k o hb h => (oo k (by omega)).trans h))
      have P12_13 := hI (pe_to P12_12.out (fun k o hb h => (oo k (by omega)).trans h))
      clear BB_12 BR_12 BA_12 PX_12 PL_12 PQ_12 P12_12
      clear hS hS2 bb zz oo kk
      obtain ⟨p0A, p1A, p2A, p3A, p4A, p5A, p6A, p7A, p8A, pfA, plA⟩ := bx9 BA_13.out
      obtain ⟨p0T, p1T, p2T, p3T, p4T, p5T, p6T, pfT, plT⟩ := bx BT_13.out
      obtain ⟨i5, hi, hzz, hsz, hby⟩ := info55'
      have HI5 := hI hi
      have HZ5 := hI hzz
      have HS5 := hI hsz
      have HB5 := hI hby
      clear hi hzz hsz hby
      go_wp2_with (at_builtin; refine wpList_append_lies _ rfl (.tmp 59) (.tmp 61) 53 rfl (w6.heap.size) 55 i5 _ 7 80 Tryz.underlying53 HI5.out HZ5.out HS5.out HB5.out rfl (by decide) (.slice (some ⟨g0, 0, none⟩) es2.length lc) (es2.length) _ rfl (Rw.alloc ((PQ_13.out.sub (S' := fun b => w6.heap.size ≤ b ∧ b ≠ w8.heap.size) (fun b hb => by show w6.heap.size ≤ b ∧ b ≠ w8.heap.size; omega))) _).1 ⟨w13.heap.size, 0, none⟩ 1 1 [.int .i64 k12, .int .i64 a12, .int .i64 op12, .int .i64 wd12, .int .u64 n12, .string nm12, .slice sa12 sl12 sc12] rfl rfl (new_cells _ _ _) seven_one (by decide) (by simp only [maxLen]; omega) (by omega) (by simp; omega) _ rfl ?_; intro g14 cap14 w614 hownX hgrowX hatX hltX; have eX := (hgrowX.block (wo.heap.size) (by have := heap_lt BA_13.out; simp; omega) (by simp [Value.ownBlock]; omega)).trans ((Below.heap_alloc _ _ _ (heap_lt BA_13.out)).trans BA_13.out); have OB := hI hownX; have GB := hI hgrowX; have TB := hI hatX; clear hownX hgrowX hatX; obtain ⟨p0A, p1A, p2A, p3A, p4A, p5A, p6A, p7A, p8A, pfA, plX⟩ := bx9 eX; clear eX)
      generalize hS : w614.setCell ⟨wo.heap.size, 1, none⟩ _ = w14
      clear p0A p1A p2A p3A p4A p5A p6A p7A p8A pfA plA p0T p1T p2T p3T p4T p5T p6T pfT plT plX HI5 HZ5 HS5 HB5
      obtain ⟨bb, kk, ⟨sg14, sz14⟩, rr⟩ := row_app (S := fun b => w6.heap.size ≤ b ∧ b ≠ w8.heap.size) (xr := g0) ((PQ_13.out.sub (S' := fun b => w6.heap.size ≤ b ∧ b ≠ w8.heap.size) (fun b hb => by show w6.heap.size ≤ b ∧ b ≠ w8.heap.size; omega))) OB.out GB.out TB.out rfl hltX BA_13.out (by simp [Value.ownBlock]; omega) (.inr rfl) (by show w6.heap.size ≤ _ ∧ _ ≠ w8.heap.size; simp only [World.size_alloc]; omega) hS
      have sg14 : w6.heap.size ≤ g14 ∧ g14 ≠ w8.heap.size := sg14
      have z14 : w13.heap.size ≤ w14.heap.size := kk.size
      have K14 : Hid (Kq br w w14) := K13.out.comp2 kk (by omega) (by omega)
      have X14 : Hid (Sx br s w14 c12 m12) := kk.sx (by omega) (by omega) X13.out
      have KK := hI kk
      have RR := hI rr
      have BA_14 : Hid (w14.heap[wo.heap.size]? = some (.cells #[.bool false, .slice (some ⟨g14, 0, none⟩) (es2.length + 1) cap14, .int .i64 0, .int .i64 0, .bool false, .string ⟨#[]⟩, .slice none 0 0, .slice none 0 0, .slice none 0 0] 127)) := bb
      clear hS bb kk rr hltX OB GB TB X13 K13
      have PQ_14 : Hid (c12 = 0 → ∃ xs : List (Ele), Rw elE (fun b => w6.heap.size ≤ b ∧ b ≠ w8.heap.size) (w6.heap.size) w14 (.slice (some ⟨g14, 0, none⟩) (es2.length + 1) cap14) xs ∧ (1 ≤ xs.length ∧ xs.length + m12 ≤ mr ∧ (commaTxt (xs.map (fun x : Ele => x.2.2))).length ≤ 64 * (mr - m12))) := by
       intro hc
       obtain ⟨t, hp, hl⟩ := P12_13.out hc
       have hm := (A12.out.2 hc).2
       have hl0 := HLQ.out
       refine ⟨es2 ++ [(k12, [.int .i64 k12, .int .i64 a12, .int .i64 op12, .int .i64 wd12, .int .u64 n12, .string nm12, .slice sa12 sl12 sc12], t)], RR.out [(k12, [.int .i64 k12, .int .i64 a12, .int .i64 op12, .int .i64 wd12, .int .u64 n12, .string nm12, .slice sa12 sl12 sc12], t)] (by simp) (by simp [elE]) rfl ?_ (by show ¬ (w6.heap.size ≤ _ ∧ _ ≠ w8.heap.size); omega), ?_⟩
       ·intro y hy
        rw [List.mem_singleton] at hy
        subst hy
        refine elE.mono ?_ (fun _ _ _ _ hu => hu) hp
        intro b hb
        have h1 : w11.heap.size ≤ b ∧ b < w12.heap.size := hb
        refine ⟨by show w6.heap.size ≤ b ∧ b ≠ w8.heap.size; omega, ?_⟩
        simp [Value.ownBlock]
        omega
       ·rw [List.map_append, List.map_cons, List.map_nil, commaTxt_snoc _ _ (by intro e; have := congrArg List.length e; rw [List.length_map] at this; simp only [lnN] at this; omega)]
        simp only [lnA, lnC, lnN]
        exact ⟨by omega, by omega, by omega⟩
      clear PQ_13
      clear P12_13
      have BB_14 := hI (KK.out.get (by omega) (by omega) BB_13.out)
      have BR_14 := hI (KK.out.get (by omega) (by omega) BR_13.out)
      have BT_14 := hI (KK.out.get (by omega) (by omega) BT_13.out)
      have PX_14 := hI (rw_to PX_13.out (fun k o hb h => KK.out.get (by omega) (by omega) h))
      have PL_14 := hI (Rw.to PL_13.out (fun k o hb h => KK.out.get (by omega) (by omega) h))
      clear BB_13 BR_13 BT_13 PX_13 PL_13
      clear KK RR BA_13
      go_roundg m12
      case measure => have := A12.out.1; omega
      case rel => exact ⟨c12, m12, _, _, _, _, _, _, _, _, _, _, _, _, rfl, X14, K14, BR_14, BB_14, BA_14, BT_14, by omega, PX_14, PL_14, PQ_14, by have := A12.out.1; omega, (fun _ => HCI.out (by trivial) : Hid _)⟩
     go_wp2_with fail
     refine (must_any XI.out _).mono ?_
     rintro e w12 ⟨rfl, hk, c12, m12, hx, ha⟩
     have z12 : wr.heap.size ≤ w12.heap.size := hk.size
     have KK := hI hk
     have K12 : Hid (Kq br w w12) := KI.out.trans hk
     have X12 := hI hx
     have A12 := hI ha
     clear hk hx ha
     have BB_12 := hI (KK.out.get (by omega) BB_i.out)
     have BR_12 := hI (KK.out.get (by omega) BR_i.out)
     have BA_12 := hI (KK.out.get (by omega) BA_i.out)
     have BT_12 := hI (KK.out.get (by omega) BT_i.out)
     have PX_12 := hI (rw_to PX_i.out (fun k o hb h => KK.out.get (by omega) h))
     have PL_12 := hI (Rw.to PL_i.out (fun k o hb h => KK.out.get (by omega) h))
     have PQ_12 := hI (rw_to PQ_i.out (fun k o hb h => KK.out.get (by omega) h))
     clear BB_i BR_i BA_i BT_i PX_i PL_i PQ_i
     clear KK
     go_wp2_with fail
     have HL : Hid (meas c12 m12 < M) := by
      have hA8 := A8.out.1
      have hA12 := A12.out.1
      have hm1 := hM1.out
      show _ < _
      unfold meas
      split <;> omega
     refine (HI.out _ HL.out br s c12 m12 w12 X12.out (Nat.le_refl _)).mono ?_
     rintro e w13 ⟨k13, a13, lt13, nm13, xa13, xl13, xc13, sa13, sl13, sc13, aa13, al13, ac13, rfl, hk, c13, m13, hx, ha, hp⟩
     have z13 : w12.heap.size ≤ w13.heap.size := hk.size
     have KK := hI hk
     have K13 : Hid (Kq br w w13) := K12.out.trans hk
     have X13 := hI hx
     have A13 := hI ha
     have P13_13 := hI (ps_born hp)
     clear hk hx ha hp
     have BB_13 := hI (KK.out.get (by omega) BB_12.out)
     have BR_13 := hI (KK.out.get (by omega) BR_12.out)
     have BA_13 := hI (KK.out.get (by omega) BA_12.out)
     have BT_13 := hI (KK.out.get (by omega) BT_12.out)
     have PX_13 := hI (rw_to PX_12.out (fun k o hb h => KK.out.get (by omega) h))
     have PL_13 := hI (Rw.to PL_12.out (fun k o hb h => KK.out.get (by omega) h))
     have PQ_13 := hI (rw_to PQ_12.out (fun k o hb h => KK.out.get (by omega) h))
     clear BB_12 BR_12 BA_12 BT_12 PX_12 PL_12 PQ_12
     clear KK
     clear HL
     obtain ⟨p0A, p1A, p2A, p3A, p4A, p5A, p6A, p7A, p8A, pfA, plA⟩ := bx9 BA_13.out
     go_upto_region 23 with fail
     generalize hS : (((((((w13.setCell ⟨wo.heap.size, 2, none⟩ (.int .i64 k13)).setCell ⟨wo.heap.size, 3, none⟩ (.int .i64 a13)).setCell ⟨wo.heap.size, 4, none⟩ (.bool lt13)).setCell ⟨wo.heap.size, 5, none⟩ (.string nm13)).setCell ⟨wo.heap.size, 6, none⟩ (.slice xa13 xl13 xc13)).setCell ⟨wo.heap.size, 7, none⟩ (.slice sa13 sl13 sc13)).setCell ⟨wo.heap.size, 8, none⟩ (.slice aa13 al13 ac13)) = w14
     clear p0A p1A p2A p3A p4A p5A p6A p7A p8A pfA plA
     have hS2 : setFrom w13 (wo.heap.size) 2 [.int .i64 k13, .int .i64 a13, .bool lt13, .string nm13, .slice xa13 xl13 xc13, .slice sa13 sl13 sc13, .slice aa13 al13 ac13] = w14 := hS
     obtain ⟨bb, zz, oo, kk, xx⟩ := set_boxN hS2 BA_13.out
     have z14 : w13.heap.size ≤ w14.heap.size := by omega
     have K14 : Hid (Kq br w w14) := kk br w K13.out (by omega)
     have X14 : Hid (Sx br s w14 c13 m13) := xx br s c13 m13 X13.out (by omega)
     have BA_14 : Hid (w14.heap[wo.heap.size]? = some (.cells #[.bool false, .slice la ll lc, .int .i64 k13, .int .i64 a13, .bool lt13, .string nm13, .slice xa13 xl13 xc13, .slice sa13 sl13 sc13, .slice aa13 al13 ac13] 127)) := bb
     clear X13 K13 BA_13
     have BB_14 := hI ((oo _ (by omega)).trans BB_13.out)
     have BR_14 := hI ((oo _ (by omega)).trans BR_13.out)
     have BT_14 := hI ((oo _ (by omega)).trans BT_13.out)
     have PX_14 := hI (rw_to PX_13.out (fun k o hb h => (oo k (by omega)).trans h))
     have PL_14 := hI (Rw.to PL_13.out (fun k o hb h => (oo k (by omega)).trans h))
     have PQ_14 := hI (rw_to PQ_13.out (fun k o hb h => (oo k (by omega)).trans h))
     have P13_14 := hI (ps_to P13_13.out (fun k o hb h => (oo k (by omega)).trans h))
     clear BB_13 BR_13 BT_13 PX_13 PL_13 PQ_13 P13_13
     clear hS hS2 bb zz oo kk xx
     obtain ⟨p0B, p1B, p2B, p3B, p4B, p5B, p6B, pfB, plB⟩ := bx BB_14.out
     obtain ⟨p0A, p1A, p2A, p3A, p4A, p5A, p6A, p7A, p8A, pfA, plA⟩ := bx9 BA_14.out
     obtain ⟨xr15, hxo15, hxS15⟩ := Rw.own ((PL_14.out.sub (S' := fun b => w5.heap.size ≤ b) (fun b hb => by show w5.heap.size ≤ b; omega))) (x0 := w14.heap.size) (by show w5.heap.size ≤ w14.heap.size; omega)
     have hxS15 : w5.heap.size ≤ xr15 := hxS15
     have hne15 := hI (Rw.not_own ((PL_14.out.sub (S' := fun b => w5.heap.size ≤ b) (fun b hb => by show w5.heap.size ≤ b; omega))) (b := w.heap.size) (by show ¬ (w5.heap.size ≤ w.heap.size); omega))
     obtain ⟨i5, hi, hzz, hsz, hby⟩ := info127'
     have HI5 := hI hi
     have HZ5 := hI hzz
     have HS5 := hI hsz
     have HB5 := hI hby
     clear hi hzz hsz hby
     go_wp2_with (at_builtin; refine wpList_append_lies _ rfl (.tmp 70) (.tmp 72) 91 rfl (w5.heap.size) 127 i5 _ 9 144 Tryz.underlying91 HI5.out HZ5.out HS5.out HB5.out rfl (by decide) (.slice sa sl sc) (es.length) _ rfl (Rw.alloc ((PL_14.out.sub (S' := fun b => w5.heap.size ≤ b) (fun b hb => by show w5.heap.size ≤ b; omega))) _).1 ⟨w14.heap.size, 0, none⟩ 1 1 [.bool false, .slice la ll lc, .int .i64 k13, .int .i64 a13, .bool lt13, .string nm13, .slice xa13 xl13 xc13, .slice sa13 sl13 sc13, .slice aa13 al13 ac13] rfl rfl (new_cells _ _ _) nine_one (by decide) (by simp only [maxLen]; omega) (by omega) (by simp; omega) _ rfl ?_; intro g15 cap15 w615 hownX hgrowX hatX hltX; have eX := (hgrowX.block (w.heap.size) (by have := heap_lt BB_14.out; simp; omega) (hne15.out)).trans ((Below.heap_alloc _ _ _ (heap_lt BB_14.out)).trans BB_14.out); have OB := hI hownX; have GB := hI hgrowX; have TB := hI hatX; clear hownX hgrowX hatX; obtain ⟨p0B, p1B, p2B, p3B, p4B, p5B, p6B, pfB, plX⟩ := bx eX; clear eX)
     generalize hS : w615.setCell ⟨w.heap.size, 6, none⟩ _ = w15
     clear p0B p1B p2B p3B p4B p5B p6B pfB plB p0A p1A p2A p3A p4A p5A p6A p7A p8A pfA plA plX HI5 HZ5 HS5 HB5
     obtain ⟨bb, kk, ⟨sg15, sz15⟩, rr⟩ := row_app (S := fun b => w5.heap.size ≤ b) (xr := xr15) ((PL_14.out.sub (S' := fun b => w5.heap.size ≤ b) (fun b hb => by show w5.heap.size ≤ b; omega))) OB.out GB.out TB.out rfl hltX BB_14.out (hne15.out) (hxo15) (by show w5.heap.size ≤ _; simp only [World.size_alloc]; omega) hS
     have sg15 : w5.heap.size ≤ g15 := sg15
     have z15 : w14.heap.size ≤ w15.heap.size := kk.size
     have K15 : Hid (Kq br w w15) := K14.out.comp2 kk (by omega) (by omega)
     have X15 : Hid (Sx br s w15 c13 m13) := kk.sx (by omega) (by omega) X14.out
     have KK := hI kk
     have RR := hI rr
     have BB_15 : Hid (w15.heap[w.heap.size]? = some (.cells #[.int .i64 4, .int .i64 a0, .bool false, .string ⟨#[]⟩, .slice (some ⟨g5, 0, none⟩) (1) cap5, .slice none 0 0, .slice (some ⟨g15, 0, none⟩) (es.length + 1) cap15] 93)) := bb
     clear hS bb kk rr hltX OB GB TB X14 K14
     have PM_15 : Hid (c13 = 0 → ∃ xs : List (ArmD), Rw elA (fun b => w5.heap.size ≤ b) (w5.heap.size) w15 (.slice (some ⟨g15, 0, none⟩) (es.length + 1) cap15) xs ∧ (xs.length + m13 ≤ m4 ∧ (spaced (xs.map armTxt)).length ≤ 64 * (m4 - m13) ∧ ∀ d ∈ xs, d.dflt = false → 1 ≤ d.labels.length)) := by
      intro hc
      obtain ⟨t, hp, hl⟩ := P13_14.out hc
      obtain ⟨hc0, hm13⟩ := A13.out.2 hc
      obtain ⟨hl0, hdf⟩ := HLL.out
      obtain ⟨hci, hm12⟩ := A12.out.2 hc0
      obtain ⟨ls, hQ, hq1, hq2, hq3⟩ := PQ_14.out hci
      refine ⟨es ++ [(⟨false, ls, .slice la ll lc, [.int .i64 k13, .int .i64 a13, .bool lt13, .string nm13, .slice xa13 xl13 xc13, .slice sa13 sl13 sc13, .slice aa13 al13 ac13], t⟩ : ArmD)], RR.out [(⟨false, ls, .slice la ll lc, [.int .i64 k13, .int .i64 a13, .bool lt13, .string nm13, .slice xa13 xl13 xc13, .slice sa13 sl13 sc13, .slice aa13 al13 ac13], t⟩ : ArmD)] (by simp) (by simp [elA, armCells]) rfl ?_ (by show ¬ (w5.heap.size ≤ _); omega), ?_⟩
      ·intro y hy
       rw [List.mem_singleton] at hy
       subst hy
       refine ⟨?_, ?_⟩
       ·have hq := hQ.row
        refine ⟨hq.1.mono (fun b hb => ?_) (fun _ _ _ _ hu => hu), fun z hz => (hq.2 z hz).mono (fun b hb => ?_) (fun _ _ _ _ hu => hu)⟩
        all_goals have h1 : w6.heap.size ≤ b ∧ b ≠ w8.heap.size := hb
        all_goals exact ⟨by show w5.heap.size ≤ b; omega, Rw.not_own PL_14.out (by show ¬ (w5.heap.size ≤ b ∧ b < wo.heap.size); omega)⟩
       ·refine elS.mono (x := ([.int .i64 k13, .int .i64 a13, .bool lt13, .string nm13, .slice xa13 xl13 xc13, .slice sa13 sl13 sc13, .slice aa13 al13 ac13], t)) ?_ (fun _ _ _ _ hu => hu) hp
        intro b hb
        have h1 : w12.heap.size ≤ b ∧ b < w13.heap.size := hb
        exact ⟨by show w5.heap.size ≤ b; omega, Rw.not_own PL_14.out (by show ¬ (w5.heap.size ≤ b ∧ b < wo.heap.size); omega)⟩
      ·rw [lnA, List.map_append, List.map_cons, List.map_nil, spaced_snoc]
       refine ⟨?_, ?_, ?_⟩
       ·simp only [lnC, lnN]; omega
       ·simp only [armTxt, lnA, lnC, lnN, if_false, Bool.false_eq_true]
        omega
       ·intro y hy hd
        rcases List.mem_append.1 hy with hy | hy
        ·exact hdf y hy hd
        ·rw [List.mem_singleton] at hy
         subst hy
         exact hq1
     clear BA_14
     clear BT_14
     clear PL_14
     clear P13_14
     clear PQ_14
     have BR_15 := hI (KK.out.get (by omega) (by omega) BR_14.out)
     have PX_15 := hI (rw_to PX_14.out (fun k o hb h => KK.out.get (by omega) (by omega) h))
     clear BR_14 PX_14
     clear KK RR BB_14
     go_roundg (meas c13 m13)
     case measure => have hAd : Adv 0 mr c13 m13 := adv_lab A8.out HCI.out hmi (Adv.trans (A12.out) (A13.out)); have := meas_next hAd; omega
     case rel => exact ⟨_, c13, m13, _, _, _, rfl, rfl, X15, K15, BR_15, BB_15, by omega, PX_15, PM_15, by have hAd : Adv 0 mr c13 m13 := adv_lab A8.out HCI.out hmi (Adv.trans (A12.out) (A13.out)); have := hAd.1; omega, (fun _ => HC4.out : Hid _)⟩
  ·have g1 : (cr == 0) = false := beq_eq_false_iff_ne.2 hcz
   go_wp2_with fail
   clear f0 f1 f2 f3 f4 f5 f6 f7 f8 fz g1
   have hcn := hcz
   refine (must_any XR.out _).mono ?_
   rintro e w20 ⟨rfl, hk, c20, m20, hx, ha⟩
   have z20 : wo.heap.size ≤ w20.heap.size := hk.size
   have KK := hI hk
   have K20 : Hid (Kq br w w20) := KR.out.trans hk
   have X20 := hI hx
   have A20 := hI ha
   clear hk hx ha
   have BB_20 := hI (KK.out.get (by omega) BB_r.out)
   have BR_20 := hI (KK.out.get (by omega) BR_r.out)
   have PX_20 := hI (rw_to PX_r.out (fun k o hb h => KK.out.get (by omega) h))
   have PL_20 := hI (rw_to PL_r.out (fun k o hb h => KK.out.get (by omega) h))
   clear BB_r BR_r PX_r PL_r
   clear KK
   obtain ⟨p0R, p1R, p2R, p3R, p4R, p5R, p6R, pfR, plR⟩ := bx BR_20.out
   obtain ⟨p0B, p1B, p2B, p3B, p4B, p5B, p6B, pfB, plB⟩ := bx BB_20.out
   go_wp2_with fail
   refine bodyPost_ret (v := .agg #[.int .i64 4, .int .i64 a0, .bool false, .string ⟨#[]⟩, .slice (some ⟨g5, 0, none⟩) (1) cap5, .slice none 0 0, .slice sa sl sc]) (by simp [results, Tryz.results76, go_sem, *]) rfl (st_close (r := w.heap.size + 1) hlt K20.out X20.out (adv_ge A4z.out HC4.out hmr A20.out) (by omega) fun hc => ?_)
   exact absurd (A20.out.2 hc).1 hcn
end Go.Proofs.YtimmmlnememjiaaGreatDoor
