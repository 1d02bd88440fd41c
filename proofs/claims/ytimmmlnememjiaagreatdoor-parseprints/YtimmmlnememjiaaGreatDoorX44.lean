import Derived.Test.YtimmmlnememjiaaGreatDoorX
import Derived.Test.YtimmmlnememjiaaGreatDoorX43
import Derived.Test.YtimmmlnememjiaaGreatDoorX42
import Derived.Test.YtimmmlnememjiaaGreatDoorRows
import Derived.Test.YtimmmlnememjiaaGreatDoorTie
import Derived.Test.YtimmmlnememjiaaGreatDoorCards
import Derived.ProofKit
import Derived.LaidMore
import Derived.OpenShut
import Derived.Stop.Joined
import Derived.Lib.LaidTab
import Derived.SevenTiedAt
set_option maxRecDepth 100000
set_option maxHeartbeats 16000000
namespace Go.Proofs.YtimmmlnememjiaaGreatDoor
open Go.RowKit
def PtPost (w : World) (e : Ending) (w' : World) : Prop :=
 ∃ (sa : Option Addr) (sl sc : Nat) (code pl : Int), e = .returned (.tuple #[.slice sa sl sc, .agg #[.int .i64 code, .int .i64 pl]]) ∧ Below w.heap.size w w' ∧
  (code = 0 → ∃ ms : List ModD, Rw elM (fun b => w.heap.size ≤ b) w.heap.size w' (.slice sa sl sc) ms ∧ (ms.map (fun x : ModD => x.2)).flatten.length ≤ 240004000000)
theorem bx2 {W : World} {b : Nat} {T : TypeId} {v0 v1 : Value} (h : W.heap[b]? = some (.cells #[v0, v1] T)) :
  W.cell? ⟨b, 0, none⟩ = some v0 ∧ W.cell? ⟨b, 1, none⟩ = some v1 ∧ (∀ o, W.frozen? ⟨b, o, none⟩ = false) ∧ b < W.heap.size := by
 refine ⟨?_, ?_, ?_, heap_lt h⟩ <;> simp [World.cell?, World.frozen?, h]
theorem fin_below {br : Nat} {wi w wr : World} (h : Below wi.heap.size wi w) (k : Kq br w wr) (hb : wi.heap.size ≤ br) (a b : Value) : Below wi.heap.size wi (((wr.setCell ⟨wi.heap.size, 0, none⟩ a).setCell ⟨wi.heap.size, 1, none⟩ b).drew) := by
 have h1 : Below wi.heap.size wi wr := ⟨k.os.trans h.os, k.tape.trans h.tape, k.output.trans h.output, Nat.le_trans h.size k.size, fun i hi => (k.block i (by have := h.size; omega) (by omega)).trans (h.block i hi)⟩
 exact ((h1.setCell (Nat.le_refl _) _).setCell (Nat.le_refl _) _).drew
theorem fin_get {k b0 : Nat} {wr : World} {o : Obj} (hk : k ≠ b0) (a b : Value) (h : wr.heap[k]? = some o) : (((wr.setCell ⟨b0, 0, none⟩ a).setCell ⟨b0, 1, none⟩ b).drew).heap[k]? = some o := by
 show ((wr.setCell ⟨b0, 0, none⟩ a).setCell ⟨b0, 1, none⟩ b).heap[k]? = some o
 rw [Below.heap_setCell _ _ _ _ hk, Below.heap_setCell _ _ _ _ hk]; exact h
theorem mo_born {C : Prop} {lo K : Nat} {w : World} {cs : List Value} (h : C → ∃ t, PM (fun b => lo ≤ b) w cs t ∧ t.length ≤ K) : C → ∃ t, PM (fun b => lo ≤ b ∧ b < w.heap.size) w cs t ∧ t.length ≤ K := fun hc => by
 obtain ⟨t, h1, h2⟩ := h hc; exact ⟨t, elM.strong (x := (cs, t)) h1, h2⟩
theorem mo_to {C : Prop} {S : Nat → Prop} {K : Nat} {w w' : World} {cs : List Value} (h : C → ∃ t, PM S w cs t ∧ t.length ≤ K) (hb : ∀ k o, S k → w.heap[k]? = some o → w'.heap[k]? = some o) : C → ∃ t, PM S w' cs t ∧ t.length ≤ K := fun hc => by
 obtain ⟨t, h1, h2⟩ := h hc; exact ⟨t, elM.moved (x := (cs, t)) h1 hb, h2⟩
theorem parse_any (s : ByteArray) (wi : World) : Calls Tryz.prog 6 #[.string s] wi (PtPost wi) := by
 by_cases hs : s.size ≤ 60000
 case neg =>
  have g0 : (60000 : Int) < (s.size : Int) := by omega
  go_enter Tryz.func6, Tryz.ntmps6
  go_wp2_with fail
  refine bodyPost_ret (v := .tuple #[.slice none 0 0, .agg #[.int .i64 2, .int .i64 0]]) (by simp [results, Tryz.results6, go_sem, *]) rfl ⟨none, 0, 0, 2, 0, rfl, ?_, fun h => by cases h⟩
  exact (Below.refl _ _).alloc (Nat.le_refl _) _
 case pos =>
 have g0 : ¬ (60000 : Int) < (s.size : Int) := by omega
 go_enter Tryz.func6, Tryz.ntmps6
 go_wp2_with fail
 generalize hW : (wi.alloc (.cells _ 26)).alloc (.cells _ 35) = w
 obtain ⟨hz, r0, r1, kW, _⟩ := two_boxes hW
 have HBW : Hid (Below wi.heap.size wi w) := by rw [← hW]; exact ((Below.refl _ _).alloc (Nat.le_refl _) _).alloc (by simp) _
 clear hW kW
 generalize hbr : wi.heap.size + 1 = br at r1 ⊢
 have hlt : br < w.heap.size := by omega
 have K0 : Hid (Kq br w w) := Kq.refl _ _
 have hrd : Rd br s w 0 0 0 ⟨#[]⟩ 0 0 0 0 := r1
 have HRd := hI hrd
 clear hrd r1
 have BR_0 : Hid (w.heap[wi.heap.size]? = some (.cells #[.int .i64 0, .int .i64 0] 26)) := r0
 clear r0
 refine (step_zero br s 0 0 0 ⟨#[]⟩ 0 0 0 w HRd.out hs (Nat.zero_le _)).mono ?_
 rintro e w1 ⟨rfl, ⟨k', a', wd', n', T', q', hr', ht⟩, hk⟩
 obtain ⟨t1, t2, t3, t4, t5, t6, t7, t8, t9, t10, t11, t12, t13⟩ := ht
 obtain ⟨m1, hx⟩ : ∃ m1, Sx br s w1 0 m1 := ⟨_, k', wd', n', T', a', q', 0, hr', hs, t2, t3, t4, t8, t9, t10, t11, t12, t13, rfl⟩
 have X1 := hI hx
 have hm1 : m1 ≤ 60001 := hx.le
 have z1 : w.heap.size ≤ w1.heap.size := hk.size
 have K1 : Hid (Kq br w w1) := hk
 have BR_1 := hI (hk.get (by omega) BR_0.out)
 clear hx hk hr' t1 t2 t3 t4 t5 t6 t7 t8 t9 t10 t11 t12 t13 HRd BR_0 K0 g0
 go_wp2_with fail
 go_loopg [5] (meas 0 m1) (fun gk o wr => ∃ (cr : Int) (mr : Nat) (sa : Option Addr) (sl sc : Nat), o = .slice sa sl sc ∧ gk = meas cr mr ∧ Hid (Sx br s wr cr mr) ∧ Hid (Kq br w wr) ∧ Hid (wr.heap[wi.heap.size]? = some (.cells #[.int .i64 0, .int .i64 0] 26)) ∧ w1.heap.size ≤ wr.heap.size ∧ Hid (cr = 0 → ∃ xs : List ModD, Rw elM (fun b => w.heap.size ≤ b) w.heap.size wr (.slice sa sl sc) xs ∧ (xs.length + mr ≤ m1 ∧ (xs.map (fun x : ModD => x.2)).flatten.length ≤ 4000000 * (m1 - mr))) ∧ mr ≤ m1)
 case atStart => exact ⟨0, m1, none, 0, 0, rfl, rfl, X1, K1, BR_1, Nat.le_refl _, (fun _ => ⟨[], Rw.nil _ _ _ _, by simp⟩ : Hid _), Nat.le_refl _⟩
 case round =>
  obtain ⟨cr, mr, sa, sl, sc, rfl, hgk, XR, KR, BR_r, zR, PL_r, hmr⟩ := hrel
  clear X1 K1 BR_1
  have XS := XR.out
  obtain ⟨kt, wdt, nt, Tt, at9, qt, fat, hra, h'⟩ := XS
  obtain ⟨f0, f1, f2, f3, f4, f5, f6, f7, f8, fz⟩ := hra.all
  clear h' hra
  by_cases hcz : cr = 0
  ·subst hcz
   obtain ⟨es, hR, hn, hl⟩ := PL_r.out rfl
   have HR := hI hR.strong
   have HLL := hI hl
   clear hR hl PL_r
   by_cases hk0 : kt = 0
   ·subst hk0
    obtain ⟨q0, q1, qf, ql⟩ := bx2 BR_r.out
    go_upto_region 11 with fail
    go_big_region
    go_wp2_with fail
    refine bodyPost_ret (v := .tuple #[.slice sa sl sc, .agg #[.int .i64 0, .int .i64 fat]]) (by simp [results, Tryz.results6, go_sem, *]) rfl ⟨_, _, _, _, _, rfl, ?_, ?_⟩
    ·exact fin_below HBW.out KR.out (by omega) _ _
    ·intro _
     have hl0 := HLL.out
     refine ⟨es, ((HR.out.to (fun k o hb h => ?_)).sub2 (by omega) (fun b hb => by show _ ≤ _; omega)), by omega⟩
     have h1 : w.heap.size ≤ k ∧ k < wr.heap.size := hb
     exact fin_get (by omega) _ _ h
   have g1 : (kt == 0) = false := beq_eq_false_iff_ne.2 hk0
   go_wp2_with fail
   clear g1
   clear f0 f1 f2 f3 f4 f5 f6 f7 f8 fz
   refine (module_any br s 0 mr wr XR.out).mono ?_
   rintro e w5 ⟨cs5, rfl, hsz5, hon5, hk, c5, m5, hx, ha, hp⟩
   have z5 : wr.heap.size ≤ w5.heap.size := hk.size
   have KK := hI hk
   have K5 : Hid (Kq br w w5) := KR.out.trans hk
   have X5 := hI hx
   have A5 := hI ha
   have P5_5 := hI (mo_born hp)
   clear hk hx ha hp
   have BR_5 := hI (KK.out.get (by omega) BR_r.out)
   have PL_5 := hI (Rw.to HR.out (fun k o hb h => KK.out.get (by omega) h))
   clear BR_r HR
   clear KK
   have HON5 := hI hon5
   clear hon5
   have HSZ6 := hI hsz5
   clear hsz5
   have HTT : Hid ((w5.alloc (.cells #[.string ⟨#[]⟩, .int .i64 0, .slice none 0 0, .slice none 0 0, .slice none 0 0] 40)).there w5.heap.size 0 cs5.size) := there_new1 _ _ _ _ HSZ6.out.symm
   have HTI : Hid ((Tryz.prog.info? 40).map (·.size) = some cs5.size) := info40s.trans (congrArg some HSZ6.out.symm)
   have HTO : Hid (cs5.all (·.oneCell') = true) := arr_all HON5.out
   go_upto_region 8 with ((with_reducible refine wpList_id ?_); (refine wpList_store_mid rfl 40 (.tmp 6) (.tmp 31) rfl (w5.heap.size) 0 cs5 rfl rfl HTT.out HTI.out HTO.out ?_))
   generalize hWW : w5.alloc (.cells _ 40) = w6
   clear HTT HTI HTO
   obtain ⟨zz, bb, oo, kk⟩ := one_box hWW
   have z6 : w5.heap.size < w6.heap.size := by omega
   have K6 : Hid (Kq br w w6) := K5.out.trans (kk br).out
   have X6 : Hid (Sx br s w6 c5 m5) := X5.out.to (oo br X5.out.lt)
   clear X5 K5
   have BR_6 := hI ((oo _ (heap_lt BR_5.out)).trans BR_5.out)
   have PL_6 := hI (Rw.to PL_5.out (fun k o hb h => (oo k (heap_lt h)).trans h))
   have P5_6 := hI (mo_to P5_5.out (fun k o hb h => (oo k (heap_lt h)).trans h))
   clear BR_5 PL_5 P5_5
   obtain ⟨cT_6, LT_6⟩ : ∃ cs, Hid (Lb w6 (w5.heap.size) 5 40 cs) := ⟨_, ⟨bb, rfl, one_of rfl⟩⟩
   clear hWW zz oo kk bb
   generalize hS : w6.setCells (w5.heap.size) 0 _ = w7
   replace hS : setFrom w6 (w5.heap.size) 0 cs5.toList = w7 := (setCells_from _ _ _ _).symm.trans hS
   obtain ⟨hr, zz, oo, kk, xx⟩ := lb_copy hS LT_6.out HSZ6.out
   have z7 : w6.heap.size ≤ w7.heap.size := by omega
   have K7 : Hid (Kq br w w7) := kk br w K6.out (by omega)
   have X7 : Hid (Sx br s w7 c5 m5) := xx br s c5 m5 X6.out (by omega)
   have LT_7 : Hid (Lb w7 (w5.heap.size) 5 40 cs5) := ⟨hr, HSZ6.out, HON5.out⟩
   clear LT_6 X6 K6
   have BR_7 := hI ((oo _ (by omega)).trans BR_6.out)
   have PL_7 := hI (Rw.to PL_6.out (fun k o hb h => (oo k (by omega)).trans h))
   have P5_7 := hI (mo_to P5_6.out (fun k o hb h => (oo k (by omega)).trans h))
   clear BR_6 PL_6 P5_6
   clear hS hr zz oo kk xx
   obtain ⟨xr8, hxo8, hxS8, hxL8, hxN8⟩ := Rw.own2 ((PL_7.out.sub (S' := fun b => w.heap.size ≤ b) (fun b hb => by show w.heap.size ≤ b; omega))) (x0 := w7.heap.size) (by show w.heap.size ≤ w7.heap.size; omega) (by omega)
   have HXN8 := hI hxN8
   clear hxN8
   have hxS8 : w.heap.size ≤ xr8 := hxS8
   have HXO8 := hI hxo8
   clear hxo8
   obtain ⟨i5, hi, hzz, hsz, hby⟩ := info40'
   have HI5 := hI hi
   have HZ5 := hI hzz
   have HS5 := hI hsz
   have HB5 := hI hby
   clear hi hzz hsz hby
   have HSZ5 : Hid (cs5.size = 5) := LT_7.out.size
   have HLE5 : Hid (cs5.toList.length = 1 * 5) := by show _ = _; rw [Array.length_toList, HSZ5.out]
   have HIN5 : Hid ((Tryz.prog.info? 40).map (·.size) = some cs5.toList.length) := by show _ = _; rw [HLE5.out]; exact info40s
   have HWH5 : Hid (w7.rangeAt (w5.heap.size) 0 cs5.toList) := LT_7.out.whole
   go_wp2_with ((with_reducible refine wpList_id ?_); first | (refine wpList_load_mid rfl 40 (.tmp 6) rfl (w5.heap.size) 0 rfl cs5.toList _ HWH5.out Tryz.underlying40 rfl HIN5.out ?_) | (refine wpList_build_one rfl 24 (.tmp 33) rfl 40 cs5 5 rfl Tryz.underlying24 i5 HI5.out _ HZ5.out HS5.out HSZ5.out (by decide) (by decide) ?_) | (at_builtin; refine wpList_append_lies _ rfl (.tmp 32) (.tmp 34) 24 rfl (w.heap.size) 40 i5 _ 5 96 Tryz.underlying24 HI5.out HZ5.out HS5.out HB5.out rfl (by decide) (.slice sa sl sc) (es.length) _ rfl (Rw.alloc ((PL_7.out.sub (S' := fun b => w.heap.size ≤ b) (fun b hb => by show w.heap.size ≤ b; omega))) _).1 ⟨w7.heap.size, 0, none⟩ 1 1 cs5.toList rfl HLE5.out (new_cellsA w7 40 cs5) LT_7.out.one (by decide) (by simp only [maxLen]; omega) (by omega) (by simp; omega) _ rfl ?_; intro g8 cap8 w8 hownX hgrowX hatX hltX; have OB := hI hownX; have GB := hI hgrowX; have TB := hI hatX; clear hownX hgrowX hatX))
   obtain ⟨kk, ⟨sg8, sz8⟩, rr⟩ := row_app0 (S := fun b => w.heap.size ≤ b) (xr := xr8) ((PL_7.out.sub (S' := fun b => w.heap.size ≤ b) (fun b hb => by show w.heap.size ≤ b; omega))) OB.out GB.out TB.out rfl hltX HXO8.out (by show w.heap.size ≤ _; simp only [World.size_alloc]; omega)
   have sg8 : w.heap.size ≤ g8 := sg8
   have z8 : w7.heap.size ≤ w8.heap.size := kk.size
   have K8 : Hid (Kq br w w8) := K7.out.comp kk (by omega)
   have X8 : Hid (Sx br s w8 c5 m5) := kk.sx (by omega) X7.out
   have KK := hI kk
   have RR := hI rr
   have hgx8 : g8 = xr8 ∨ g8 = w7.heap.size + 1 := (own_g TB.out HXO8.out).imp id (fun h => h.trans (World.size_alloc _ _))
   clear kk rr hltX OB GB TB X7 K7 HI5 HZ5 HS5 HB5 HSZ5 HLE5 HIN5 HWH5
   have PM_8 : Hid (c5 = 0 → ∃ xs : List (ModD), Rw elM (fun b => w.heap.size ≤ b) (w.heap.size) w8 (.slice (some ⟨g8, 0, none⟩) (es.length + 1) cap8) xs ∧ (xs.length + m5 ≤ m1 ∧ (xs.map (fun x : ModD => x.2)).flatten.length ≤ 4000000 * (m1 - m5))) := by
    intro hc
    obtain ⟨t, hp, hl⟩ := P5_7.out hc
    have hm := (A5.out.2 hc).2
    have hl0 := HLL.out
    refine ⟨es ++ [(cs5.toList, t)], RR.out [(cs5.toList, t)] (by simp) (by simp [elM]) rfl ?_, by simp only [lnA, lnC, lnN]; omega, by rw [List.map_append, List.flatten_append]; simp only [List.map_cons, List.map_nil, List.flatten_cons, List.flatten_nil, lnA, lnN]; omega⟩
    intro y hy
    rw [List.mem_singleton] at hy
    subst hy
    refine elM.mono ?_ (fun _ _ _ _ hu => hu) hp
    intro b hb
    have h1 : wr.heap.size ≤ b ∧ b < w5.heap.size := hb
    exact ⟨by show w.heap.size ≤ b; omega, Rw.not_own PL_7.out (by show ¬ (w.heap.size ≤ b ∧ b < wr.heap.size); omega)⟩
   clear LT_7
   clear PL_7
   clear P5_7
   have BR_8 := hI (KK.out.get (by omega) BR_7.out)
   clear BR_7
   clear KK RR HXO8
   go_roundg (meas c5 m5)
   case measure => have := meas_next A5.out; omega
   case rel => exact ⟨c5, m5, _, _, _, rfl, rfl, X8, K8, BR_8, by omega, PM_8, by have := A5.out.1; omega⟩
  ·have g1 : (cr == 0) = false := beq_eq_false_iff_ne.2 hcz
   obtain ⟨q0, q1, qf, ql⟩ := bx2 BR_r.out
   have hcn := hcz
   go_upto_region 10 with fail
   go_big_region
   go_wp2_with fail
   refine bodyPost_ret (v := .tuple #[.slice none 0 0, .agg #[.int .i64 cr, .int .i64 fat]]) (by simp [results, Tryz.results6, go_sem, *]) rfl ⟨_, _, _, _, _, rfl, ?_, ?_⟩
   ·exact fin_below HBW.out KR.out (by omega) _ _
   ·intro h; exact absurd h hcn
def Laid (w : World) : Prop := 3 ≤ w.heap.size ∧ Tabs w ∧ Lib.TabIs Tryz.prog w "internal/strconv.uint64pow10" .u64 Lib.pow10Tab
theorem Laid.keep {B : Nat} {w w' : World} (h : Laid w) (hb : Below B w w') (hB : 3 ≤ B) : Laid w' :=
 ⟨Nat.le_trans h.1 hb.size, ⟨fun k hk => ⟨(hb.cell (p := ⟨0, k * 3, none⟩) (by show 0 < B; omega)).trans (h.2.1.1 k hk).1, (hb.cell (p := ⟨0, k * 3 + 1, none⟩) (by show 0 < B; omega)).trans (h.2.1.1 k hk).2⟩,
  fun k hk => ⟨(hb.cell (p := ⟨1, k * 3, none⟩) (by show 1 < B; omega)).trans (h.2.1.2 k hk).1, (hb.cell (p := ⟨1, k * 3 + 1, none⟩) (by show 1 < B; omega)).trans (h.2.1.2 k hk).2⟩⟩, tab_keep h.2.2 hb (by omega)⟩
theorem both {W w' : World} {B : Nat} (hB : Below B w' W) (hsz : w'.heap.size ≤ B) {sa : Option Addr} {sl sc : Nat} {lo : Nat} {ms : List ModD} (hr : Rw elM (fun b => lo ≤ b) lo w' (.slice sa sl sc) ms) (hl : (ms.map (fun x : ModD => x.2)).flatten.length ≤ 240004000000) (hL : Laid W) :
  ∃ t, Calls Tryz.prog 7 #[.slice sa sl sc] W (StrPost t W) ∧ ∀ w2, Below W.heap.size W w2 → Calls Tryz.prog 8 #[.slice sa sl sc] w2 (StrPost t w2) := by
 obtain ⟨r0, p0⟩ := hr.row
 have r1 := RowOf.strong (by decide) r0
 have keep : ∀ b o v, (lo ≤ b ∧ b < w'.heap.size) → w'.cell? ⟨b, o, none⟩ = some v → W.cell? ⟨b, o, none⟩ = some v := fun b o v hb hu => (hB.cell (p := ⟨b, o, none⟩) (by show b < B; omega)).trans hu
 have r2 := r1.mono (fun _ h => h) keep
 have hS : ∀ b, (lo ≤ b ∧ b < w'.heap.size) → b < W.heap.size := fun b hb => Nat.lt_of_lt_of_le hb.2 hB.size
 have p2 : ∀ x ∈ ms, PM (fun b => lo ≤ b ∧ b < w'.heap.size) W x.1 x.2 := fun x hx => elM.mono (x := x) (fun _ h => h) keep (elM.strong (p0 x hx))
 exact ⟨_, print_any hS hL.1 hL.2.1 hL.2.2 r2 p2 (by omega), text_any hS r2 p2 (by omega)⟩
theorem printed_any (s : ByteArray) (w : World) (hL : Laid w) : Calls Tryz.prog 4 #[.string s] w fun e w' => e = .returned (.bool true) ∧ Below w.heap.size w w' := by
 have HL := hidp hL
 clear hL
 go_enter Tryz.func4, Tryz.ntmps4
 go_wp2_with fail
 refine (parse_any s w).mono ?_
 rintro e w1 ⟨sa, sl, sc, code, pl, rfl, hb1, hc⟩
 have HB1 := hidp hb1
 have HC := hidp hc
 clear hb1 hc
 by_cases h0 : code = 0
 ·subst h0
  obtain ⟨ms, hr, hl⟩ := HC.out rfl
  have hLW : Laid (w1.alloc (.cells #[.int .i64 0, .int .i64 pl] 26)) := HL.out.keep (B := w.heap.size) (HB1.out.alloc HB1.out.size _) HL.out.1
  obtain ⟨t, c7, c8⟩ := both ((Below.refl w1.heap.size w1).alloc (Nat.le_refl _) (.cells #[.int .i64 0, .int .i64 pl] 26)) (Nat.le_refl _) hr hl hLW
  have H7 := hidp c7
  have H8 := hidp c8
  clear hr hl hLW c7 c8 HC
  go_wp2_with fail
  refine H7.out.mono ?_
  rintro e w2 ⟨rfl, hb2⟩
  have HB2 := hidp hb2
  clear hb2
  go_wp2_with fail
  refine (H8.out w2 HB2.out).mono ?_
  rintro e w3 ⟨rfl, hb3⟩
  have HB3 : Hid (Below w.heap.size w w3) := by
   have h1 := HB1.out.alloc HB1.out.size (.cells #[.int .i64 0, .int .i64 pl] 26)
   have h2 := h1.trans (HB2.out.mono h1.size)
   exact h2.trans (hb3.mono h2.size)
  clear hb3
  go_wp2_with fail
  go_ret
  exact ⟨by simp, HB3.out⟩
 ·have hne : (code != 0) = true := by simpa using h0
  clear h0
  go_wp2_with fail
  go_ret
  exact ⟨rfl, HB1.out.alloc HB1.out.size _⟩
theorem one_gives (w : World) : Calls Tryz.prog 5 #[] w fun e w' => (∃ s, e = .returned (.string s)) ∧ w' = w := by
 go_enter Tryz.func5, Tryz.ntmps5
 go_wp2_with fail
 go_ret
 exact ⟨⟨_, rfl⟩, rfl⟩
theorem law_any (s : ByteArray) (w : World) (hL : Laid w) : Calls Tryz.prog 3 #[.string s] w fun e w' => e = .returned (.bool true) ∧ Below w.heap.size w w' := by
 have HL := hidp hL
 clear hL
 go_enter Tryz.func3, Tryz.ntmps3
 go_wp2_with fail
 refine (one_gives w).mono ?_
 rintro e w1 ⟨⟨s1, rfl⟩, rfl⟩
 go_wp2_with fail
 refine (printed_any s1 w1 HL.out).mono ?_
 rintro e w2 ⟨rfl, hb2⟩
 have HB2 := hidp hb2
 clear hb2
 go_wp2_with fail
 refine (printed_any s w2 (HL.out.keep HB2.out HL.out.1)).mono ?_
 rintro e w3 ⟨rfl, hb3⟩
 have HB3 := hidp (HB2.out.trans (hb3.mono HB2.out.size))
 clear hb3
 go_wp2_with fail
 go_ret
 exact ⟨rfl, HB3.out⟩
end Go.Proofs.YtimmmlnememjiaaGreatDoor
namespace Go.Proofs.YtimmmlnememjiaaGreatDoor
open Go.ChangeShapes Go.WideShapes Go.ChangeAt Go.RowKit
open Go.ChangeMaps (open_string shut_string)
theorem rows_of {H : Type} {enc : TypeId × Value → H} {w : World} {base : Nat} {spare : Nat → Bool} {held : Bool} {fuel : Nat} {cs : List Value} {p : List MemPlace} {n : Nat} {T : TypeId} (hT : Tryz.prog.underlying T = some (.array n 132))
  (rows : List (List UInt8 × Int × Int)) (hn : rows.length = n)
  (h : DataW.trod enc Tryz.prog w base spare held fuel T cs = some (.agg (rows.map fun r => .agg [.lit (.string r.1), .lit (.int .i64 r.2.1), .lit (.int .i64 r.2.2)]), p)) :
  ∀ (i : Nat) (r : List UInt8 × Int × Int), rows[i]? = some r → cs[i * 3]? = some (.string (bs r.1)) ∧ cs[i * 3 + 1]? = some (.int .i64 r.2.1) := by
 have c132 : Tryz.prog.cellsOf 132 = 3 := by kernel_rfl
 have c9 : Tryz.prog.cellsOf 9 = 1 := by kernel_rfl
 have c3 : Tryz.prog.cellsOf 3 = 1 := by kernel_rfl
 obtain ⟨xs, m, rfl, hx, hlen, hxl, hel⟩ := DataW.trod_array hT h
 intro i r hr
 have hi : i < n := by rw [← hn]; exact (List.getElem?_eq_some_iff.1 hr).1
 have h1 := hel i hi
 simp only [Prod.mk.injEq, DataW.agg.injEq] at hx
 obtain ⟨y, hy⟩ : ∃ y, xs[i]? = some y := ⟨xs[i]'(by omega), List.getElem?_eq_getElem (by omega)⟩
 have hy1 : y.1 = .agg [.lit (.string r.1), .lit (.int .i64 r.2.1), .lit (.int .i64 r.2.2)] := by
  have := congrArg (fun l => l[i]?) hx.1
  simp only [List.getElem?_map, hr, hy, Option.map_some, Option.some.injEq] at this
  exact this.symm
 rw [hy, c132] at h1
 obtain ⟨ys, m2, rfl, hx2, hlen2, hyl, hel2⟩ := DataW.trod_struct Tryz.underlying132 h1
 rw [hx2] at hy1
 simp only [DataW.agg.injEq] at hy1
 match ys, hyl, hy1, hel2 with
 | [y0, y1, y2], _, hy1, hel2 =>
  simp only [List.map_cons, List.map_nil, List.cons.injEq] at hy1
  have e0 := hel2 0 _ rfl
  have e1 := hel2 1 _ rfl
  obtain ⟨s, es, ex, _⟩ := DataW.trod_string Tryz.underlying9 (show DataW.trod _ Tryz.prog _ _ _ _ _ 9 _ = some y0 from e0)
  obtain ⟨k, ek, exk, _⟩ := DataW.trod_int Tryz.underlying3 (show DataW.trod _ Tryz.prog _ _ _ _ _ 3 _ = some y1 from e1)
  rw [ex] at hy1
  rw [exk] at hy1
  simp only [DataW.lit.injEq, Lit.string.injEq, Lit.int.injEq] at hy1
  obtain ⟨a1, ⟨_, a2⟩, _⟩ := hy1
  constructor
  ·have := congrArg (fun l => l[0]?) es
   simp [List.getElem?_drop, c9] at this
   rw [this, ← a1]; rfl
  ·have := congrArg (fun l => l[0]?) ek
   simp [List.getElem?_drop, c3] at this
   rw [this, a2]
end Go.Proofs.YtimmmlnememjiaaGreatDoor
namespace Go.Proofs.YtimmmlnememjiaaGreatDoor
open Go.ChangeShapes Go.WideShapes Go.ChangeAt Go.RowKit
open Go.ChangeMaps (open_string shut_string)
def unRows : List (List UInt8 × Int × Int) := [([126], 1, 0), ([33], 2, 0), ([45], 3, 0), ([38], 4, 0), ([124], 5, 0), ([94], 6, 0)]
def binRows : List (List UInt8 × Int × Int) := [([124, 124], 22, 1), ([38, 38], 21, 2), ([124], 20, 3), ([94], 19, 4), ([38], 18, 5), ([61, 61], 16, 6), ([33, 61], 17, 6), ([60], 12, 7), ([60, 61], 13, 7), ([62], 14, 7), ([62, 61], 15, 7), ([60, 60], 10, 8), ([62, 62], 11, 8), ([43], 8, 9), ([45], 9, 9), ([42], 7, 10)]
theorem own : ownKnob Tryz.prog.godebug = none := by kernel_rfl
theorem gU : Tryz.prog.globalNamed "gatewright/parse.unaries" = some 0 := by kernel_rfl
theorem gB : Tryz.prog.globalNamed "gatewright/parse.binaries" = some 1 := by kernel_rfl
theorem tU : (Tryz.prog.globals[0]?).map (·.type) = some 133 := by kernel_rfl
theorem tB : (Tryz.prog.globals[1]?).map (·.type) = some 134 := by kernel_rfl
theorem tP : (Tryz.prog.globals[2]?).map (·.type) = some 144 := by kernel_rfl
theorem of_laid {W : World} (h : laidMetH Tryz.prog Rows.parsePrintsRow.laid W) : Laid W := by
 rw [MakeChecks.laidMetH_plain _ _ _ (by kernel_rfl)] at h
 obtain ⟨ps, ⟨g0, t0, cs0, f0, p0, q0, hg0, ht0, hv0, hd0, ⟨g1, t1, cs1, f1, p1, q1, hg1, ht1, hv1, hd1, ⟨g2, t2, cs2, f2, p2, q2, hg2, ht2, hv2, hd2, ⟨g3, t3, cs3, f3, p3, q3, hg3, ht3, hv3, hd3, ⟨g4, t4, cs4, f4, p4, q4, hg4, ht4, hv4, hd4, _, _⟩, _⟩, _⟩, _⟩, _⟩, _, _⟩ := h
 obtain rfl := Option.some.inj (pow10g.symm.trans hg2)
 obtain rfl := Option.some.inj (gU.symm.trans hg3)
 obtain rfl := Option.some.inj (gB.symm.trans hg4)
 obtain rfl := Option.some.inj (tP.symm.trans ht2)
 obtain rfl := Option.some.inj (tU.symm.trans ht3)
 obtain rfl := Option.some.inj (tB.symm.trans ht4)
 have c2 := World.var?_cell hg2 hv2
 have c3 := World.var?_cell hg3 hv3
 have c4 := World.var?_cell hg4 hv4
 have hP : cs2.toList = Lib.pow10Tab.map fun z => Value.int .u64 z := Lib.cells_of_tab Tryz.underlying144 Tryz.underlying31 (by kernel_rfl) (by kernel_rfl) hd2
 have RU := rows_of Tryz.underlying133 unRows rfl hd3
 have RB := rows_of Tryz.underlying134 binRows rfl hd4
 have hT : Lib.TabIs Tryz.prog W "internal/strconv.uint64pow10" .u64 Lib.pow10Tab := by
  unfold Lib.TabIs
  rw [hv2, ← hP]
 refine ⟨?_, ⟨fun k hk => ?_, fun k hk => ?_⟩, hT⟩
 ·have h0 := hT.cell pow10g 0 (by decide)
  exact World.block_lt_of_cell? W _ h0
 ·have hk6 : k = 0 ∨ k = 1 ∨ k = 2 ∨ k = 3 ∨ k = 4 ∨ k = 5 := by omega
  rcases hk6 with rfl | rfl | rfl | rfl | rfl | rfl
  ·exact ⟨(c3 _).trans (by rw [← Array.getElem?_toList]; exact (RU 0 _ rfl).1), (c3 _).trans (by rw [← Array.getElem?_toList]; exact (RU 0 _ rfl).2)⟩
  ·exact ⟨(c3 _).trans (by rw [← Array.getElem?_toList]; exact (RU 1 _ rfl).1), (c3 _).trans (by rw [← Array.getElem?_toList]; exact (RU 1 _ rfl).2)⟩
  ·exact ⟨(c3 _).trans (by rw [← Array.getElem?_toList]; exact (RU 2 _ rfl).1), (c3 _).trans (by rw [← Array.getElem?_toList]; exact (RU 2 _ rfl).2)⟩
  ·exact ⟨(c3 _).trans (by rw [← Array.getElem?_toList]; exact (RU 3 _ rfl).1), (c3 _).trans (by rw [← Array.getElem?_toList]; exact (RU 3 _ rfl).2)⟩
  ·exact ⟨(c3 _).trans (by rw [← Array.getElem?_toList]; exact (RU 4 _ rfl).1), (c3 _).trans (by rw [← Array.getElem?_toList]; exact (RU 4 _ rfl).2)⟩
  ·exact ⟨(c3 _).trans (by rw [← Array.getElem?_toList]; exact (RU 5 _ rfl).1), (c3 _).trans (by rw [← Array.getElem?_toList]; exact (RU 5 _ rfl).2)⟩
 ·have hk16 : k = 0 ∨ k = 1 ∨ k = 2 ∨ k = 3 ∨ k = 4 ∨ k = 5 ∨ k = 6 ∨ k = 7 ∨ k = 8 ∨ k = 9 ∨ k = 10 ∨ k = 11 ∨ k = 12 ∨ k = 13 ∨ k = 14 ∨ k = 15 := by omega
  rcases hk16 with rfl | rfl | rfl | rfl | rfl | rfl | rfl | rfl | rfl | rfl | rfl | rfl | rfl | rfl | rfl | rfl
  ·exact ⟨(c4 _).trans (by rw [← Array.getElem?_toList]; exact (RB 0 _ rfl).1), (c4 _).trans (by rw [← Array.getElem?_toList]; exact (RB 0 _ rfl).2)⟩
  ·exact ⟨(c4 _).trans (by rw [← Array.getElem?_toList]; exact (RB 1 _ rfl).1), (c4 _).trans (by rw [← Array.getElem?_toList]; exact (RB 1 _ rfl).2)⟩
  ·exact ⟨(c4 _).trans (by rw [← Array.getElem?_toList]; exact (RB 2 _ rfl).1), (c4 _).trans (by rw [← Array.getElem?_toList]; exact (RB 2 _ rfl).2)⟩
  ·exact ⟨(c4 _).trans (by rw [← Array.getElem?_toList]; exact (RB 3 _ rfl).1), (c4 _).trans (by rw [← Array.getElem?_toList]; exact (RB 3 _ rfl).2)⟩
  ·exact ⟨(c4 _).trans (by rw [← Array.getElem?_toList]; exact (RB 4 _ rfl).1), (c4 _).trans (by rw [← Array.getElem?_toList]; exact (RB 4 _ rfl).2)⟩
  ·exact ⟨(c4 _).trans (by rw [← Array.getElem?_toList]; exact (RB 5 _ rfl).1), (c4 _).trans (by rw [← Array.getElem?_toList]; exact (RB 5 _ rfl).2)⟩
  ·exact ⟨(c4 _).trans (by rw [← Array.getElem?_toList]; exact (RB 6 _ rfl).1), (c4 _).trans (by rw [← Array.getElem?_toList]; exact (RB 6 _ rfl).2)⟩
  ·exact ⟨(c4 _).trans (by rw [← Array.getElem?_toList]; exact (RB 7 _ rfl).1), (c4 _).trans (by rw [← Array.getElem?_toList]; exact (RB 7 _ rfl).2)⟩
  ·exact ⟨(c4 _).trans (by rw [← Array.getElem?_toList]; exact (RB 8 _ rfl).1), (c4 _).trans (by rw [← Array.getElem?_toList]; exact (RB 8 _ rfl).2)⟩
  ·exact ⟨(c4 _).trans (by rw [← Array.getElem?_toList]; exact (RB 9 _ rfl).1), (c4 _).trans (by rw [← Array.getElem?_toList]; exact (RB 9 _ rfl).2)⟩
  ·exact ⟨(c4 _).trans (by rw [← Array.getElem?_toList]; exact (RB 10 _ rfl).1), (c4 _).trans (by rw [← Array.getElem?_toList]; exact (RB 10 _ rfl).2)⟩
  ·exact ⟨(c4 _).trans (by rw [← Array.getElem?_toList]; exact (RB 11 _ rfl).1), (c4 _).trans (by rw [← Array.getElem?_toList]; exact (RB 11 _ rfl).2)⟩
  ·exact ⟨(c4 _).trans (by rw [← Array.getElem?_toList]; exact (RB 12 _ rfl).1), (c4 _).trans (by rw [← Array.getElem?_toList]; exact (RB 12 _ rfl).2)⟩
  ·exact ⟨(c4 _).trans (by rw [← Array.getElem?_toList]; exact (RB 13 _ rfl).1), (c4 _).trans (by rw [← Array.getElem?_toList]; exact (RB 13 _ rfl).2)⟩
  ·exact ⟨(c4 _).trans (by rw [← Array.getElem?_toList]; exact (RB 14 _ rfl).1), (c4 _).trans (by rw [← Array.getElem?_toList]; exact (RB 14 _ rfl).2)⟩
  ·exact ⟨(c4 _).trans (by rw [← Array.getElem?_toList]; exact (RB 15 _ rfl).1), (c4 _).trans (by rw [← Array.getElem?_toList]; exact (RB 15 _ rfl).2)⟩
theorem door_met (os : Os) (args : Array Value) : laidMetH Tryz.prog Rows.parsePrintsRow.laid ((World.doorLaid Tryz.prog 400 os).forCall (fun _ _ => 0) ⟨#[], args, []⟩).memory :=
 laidMetH_of_parts3 (fuel := 8) (laidMet_of_run' 8 (by kernel_rfl) (by kernel_rfl)) (by kernel_rfl) (by kernel_rfl)
theorem lifted (os : Os) (started : os.Started) (H : Type) (enc : TypeId × Value → H) :
  ReturnsInHanded {} Tryz.checked os 3 .any (fun w args => (Rows.parsePrintsSpec.pre enc Tryz.prog Tryz.f3 [] false w args ∧ laidMetH Tryz.prog Rows.parsePrintsRow.laid w) ∧ sizedMet enc Tryz.prog Tryz.f3 (OpenSpec.ofChange Rows.parsePrintsSpec) false w args)
   (Rows.parsePrintsSpec.post enc Tryz.prog Tryz.f3 false true false false) := by
 refine returnsInHanded_of_change_and (C := Tryz.checked) (X := fun w _ => laidMetH Tryz.prog Rows.parsePrintsRow.laid w) (fun _ _ _ hh h => h.of_heap hh) own started (by kernel_rfl) Tryz.func3
  (ChangeSpec.witness_shaped (enc := enc) (C := Tryz.checked) (os := os) (X := fun w _ => laidMetH Tryz.prog Rows.parsePrintsRow.laid w) false (World.doorLaid Tryz.prog 400 os) #[.string ⟨#[]⟩] 8 rfl (World.shaped_of_RefB (by kernel_rfl) (by kernel_rfl)) (by kernel_rfl) (by kernel_rfl) (by kernel_rfl) (door_met os _)) ?_
 intro W base args ds gs before hval0 hW _ _ hL _
 have hval : ∀ (j : Nat) t v, Tryz.f3.params[j]? = some t → args[j]? = some v → Value.okWide Tryz.prog W .any base t v := hval0
 have hW' := hW
 obtain ⟨p, q, hA0, hV0, rfl, _, _⟩ := hW
 have hA : DataW.TrodAll enc Tryz.prog W 0 (fun _ => true) true Tryz.f3.params.toList args.toList ds p := hA0
 rw [Tryz.params3] at hA hval
 obtain ⟨v0, d0, rfl, rfl, h0⟩ := trodAll_one hA
 obtain ⟨rfl, rfl⟩ := trodVars_none hV0
 obtain ⟨s, rfl, rfl, rfl, ws⟩ := open_string Tryz.underlying9 (hval 0 9 v0 rfl rfl) h0
 clear hA0 hV0 hval0
 refine (law_any s W (of_laid hL)).mono ?_
 rintro e W' ⟨rfl, bel⟩
 have e1 : Rows.parsePrintsSpec.fn H ([.lit (.string s.data.toList)] ++ []) = { results := [.lit (.bool true)], args := [.lit (.string s.data.toList)] } := rfl
 refine ⟨_, rfl, _, _, _, [], [], [], hW', ?_, ?_, ?_, bel.frame _, fun h => by cases h⟩
 ·rw [e1]; exact trodAll_mk1 (shut_bool Tryz.underlying4 _)
 ·rw [e1]; exact trodAll_mk1 (shut_string Tryz.underlying9 ws)
 ·rw [e1]; rfl
theorem parsePrints_holds : Rows.ParsePrintsSaid :=
 OpenClaim.holds_of_wide 3 Tryz.f3 rfl rfl rfl rfl rfl rfl rfl ⟨rfl, rfl, rfl, rfl, rfl⟩ rfl rfl rfl rfl rfl (by kernel_rfl) Tryz.func3 (by kernel_rfl)
  (of_decide_eq_true (by kernel_rfl)) (by unfold Func.isWrapper; first | (rw [if_pos (by decide +kernel)]; kernel_rfl) | (rw [if_neg (by decide +kernel)]; exact ⟨rfl, rfl⟩))
  (fun os started H enc _ => lifted os started H enc)
theorem parsePrints_card : Rows.ParsePrintsCardSaid :=
 Claim7.holds_tied_plain_at .later [] [.data, .data, .data, .data, .data] true (true, "714d1ab49d37d11c6985fdd298fd5839c5b3f3d0f35f5eb8e8118e9673dc4099") false
  parsePrints_holds (fun _ h => by cases h) (by kernel_rfl) (fun _ h => by cases h) parsePrints_row_tie rfl ⟨rfl, rfl⟩ (by kernel_rfl) rfl
  (fun f fn hf hfn => by
   obtain rfl : f = 3 := Option.some.inj ((show Tryz.prog.funcNamed "gatewright/gatewrightlaw.ParsePrints" = some 3 by kernel_rfl).symm.trans hf) |>.symm
   obtain rfl : fn = Tryz.f3 := (Option.some.inj (Tryz.func3.symm.trans hfn)).symm
   exact ⟨by kernel_rfl, fun j t ht => by
    rw [Tryz.params3] at ht
    have hm : t ∈ [9] := by simpa using Array.mem_of_getElem? ht
    have hall : ([9].all fun u => !Tryz.prog.wantsStandIn u) = true := by kernel_rfl
    exact (show Tryz.prog.wantsStandIn t = false by simpa using List.all_eq_true.1 hall t hm)⟩)
  (by kernel_rfl)
end Go.Proofs.YtimmmlnememjiaaGreatDoor
