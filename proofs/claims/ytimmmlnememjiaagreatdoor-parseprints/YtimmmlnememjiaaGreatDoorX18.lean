import Derived.Test.YtimmmlnememjiaaGreatDoorX
import Derived.Test.YtimmmlnememjiaaGreatDoorX15
import Derived.Test.YtimmmlnememjiaaGreatDoorX17
set_option maxRecDepth 100000
set_option maxHeartbeats 16000000
namespace Go.Proofs.YtimmmlnememjiaaGreatDoor
open Go.RowKit
theorem wpList_id {P : Program} {ops : Array Oper} {rest : List Oper} {op : Oper} {a : Act} {w : World} {Q : Exit → Act → World → Prop} (h : wpList P ops Q (op :: rest) a w) : wpList P ops Q (op :: rest) a w := h
theorem there_new1 (w : World) (cs : Array Value) (T : TypeId) (n : Nat) (h : cs.size = n) : (w.alloc (.cells cs T)).there w.heap.size 0 n := by
 obtain ⟨h1, h2, _⟩ := bxN (heap_alloc_self w (.cells cs T))
 intro j hj
 refine ⟨?_, h2 _⟩
 rw [h1, Array.getElem?_eq_getElem (by omega)]; rfl
variable {α : Type}
theorem row_app0 {E : Elt α} {S : Nat → Prop} {L : Nat} {W w6 : World} {v : Value} {es : List α} {news : List Value} {g cap n xr H : Nat} {tmp : Obj}
  (R : Rw E S L W v es) (O : w6.ownsRow L E.T E.sz (.slice (some ⟨g, 0, none⟩) n cap) n (es.flatMap E.cells ++ news)) (G : (W.alloc tmp).grownBy w6 v.ownBlock) (A : v.ownBlock = some g ∨ g = H) (hH : (W.alloc tmp).heap.size = H)
  (hlg : g < w6.heap.size) (hxr : v.ownBlock = none ∨ v.ownBlock = some xr) (hSH : S H) :
  Kq xr W w6 ∧ (S g ∧ g < w6.heap.size) ∧
  (∀ ys : List α, ys ≠ [] → ys.flatMap E.cells = news → n = es.length + ys.length → (∀ y ∈ ys, E.P (fun k => S k ∧ some k ≠ v.ownBlock) W y) → Rw E S L w6 (.slice (some ⟨g, 0, none⟩) n cap) (es ++ ys)) := by
 have hSg : S g := by
  rcases A with A | A
  ·exact R.2.1 g A
  ·rw [A]; exact hSH
 refine ⟨?_, ⟨hSg, hlg⟩, ?_⟩
 ·have hs := G.size
  rw [World.size_alloc] at hs
  refine ⟨G.os, G.tape, G.output, by omega, fun k hk h2 => ?_⟩
  have hr : some k ≠ v.ownBlock := by
   rcases hxr with h | h
   ·rw [h]; simp
   ·rw [h]; intro e; exact h2 (Option.some.inj e)
  rw [G.block k (by rw [World.size_alloc]; omega) hr, Below.heap_alloc _ _ _ hk]
 ·intro ys hys hf hn' hP
  subst hf
  subst hH
  exact (R.alloc tmp).push ys hys (fun y hy => E.moved (hP y hy) (fun _ _ _ hk => (Below.heap_alloc _ _ _ (heap_lt hk)).trans hk)) (w' := w6) hSg hn' O G A
theorem Rw.sub2 {E : Elt α} {S S' : Nat → Prop} {L L' : Nat} {w : World} {v : Value} {es : List α} (h : Rw E S L w v es) (hL : L' ≤ L) (hs : ∀ b, S b → S' b) : Rw E S' L' w v es := by
 obtain ⟨h1, h2, h3, h4⟩ := h.sub hs
 refine ⟨⟨h1.1, ?_⟩, h2, h3, h4⟩
 rcases h1.2 with h0 | ⟨g, cap, cur, hv, hb, hr⟩
 ·exact .inl h0
 ·exact .inr ⟨g, cap, cur, hv, by omega, hr⟩
theorem new_cellsA (w : World) (T : TypeId) (cs : Array Value) : ∀ j u, cs.toList[j]? = some u → (w.alloc (.cells cs T)).cell? ((⟨w.heap.size, 0, none⟩ : Addr).add j) = some u := new_cells w T cs.toList
theorem el_to {C : Prop} {E : Elt α} {S : Nat → Prop} {w w' : World} {F : α → Prop} (h : C → ∃ d, E.P S w d ∧ F d) (hb : ∀ k o, S k → w.heap[k]? = some o → w'.heap[k]? = some o) : C → ∃ d, E.P S w' d ∧ F d := fun hc => by
 obtain ⟨d, h1, h2⟩ := h hc; exact ⟨d, E.moved h1 hb, h2⟩
theorem bi_born {C : Prop} {lo K : Nat} {w : World} {cs : List Value} (h : C → ∃ (nm : List UInt8) (gv : Bool) (te : List UInt8), PB (fun b => lo ≤ b) w ⟨cs, nm, gv, te⟩ ∧ nm.length + te.length + 5 ≤ K) :
  C → ∃ d : BindD, elB.P (fun b => lo ≤ b ∧ b < w.heap.size) w d ∧ (d.cs = cs ∧ d.nm.length + d.te.length + 5 ≤ K) := fun hc => by
 obtain ⟨nm, gv, te, h1, h2⟩ := h hc; exact ⟨⟨cs, nm, gv, te⟩, elB.strong h1, rfl, h2⟩
theorem bi_to {C : Prop} {S : Nat → Prop} {w w' : World} {F : BindD → Prop} (h : C → ∃ d, elB.P S w d ∧ F d) (hb : ∀ k o, S k → w.heap[k]? = some o → w'.heap[k]? = some o) : C → ∃ d, elB.P S w' d ∧ F d := el_to h hb
theorem is_some {br : Nat} {s : ByteArray} {w : World} {c : Int} {m : Nat} {Q : Ending → World → Prop} (h : Sx br s w c m) (t : ByteArray) (hq : ∀ b : Bool, Q (.returned (.bool b)) w) :
  Calls Tryz.prog 20 #[.pointer (some ⟨br, 0, none⟩), .string t] w Q := by
 obtain ⟨k, wd, n, T, hst⟩ := h
 refine (is_st hst t).mono ?_
 rintro e w' ⟨bo, rfl, rfl, _⟩
 exact hq bo
theorem bindTxt_len (d : BindD) : (bindTxt d).length ≤ d.nm.length + d.te.length + 3 := by
 unfold bindTxt
 simp only [lnA, lnC, lnN]
 split
 ·omega
 ·simp only [lnN]; omega
def BsPost (br : Nat) (s : ByteArray) (c : Int) (m : Nat) (w : World) (e : Ending) (w' : World) : Prop :=
 ∃ (sa : Option Addr) (sl sc : Nat), e = .returned (.slice sa sl sc) ∧ Kq br w w' ∧ ∃ (c' : Int) (m' : Nat), Sx br s w' c' m' ∧ Adv c m c' m' ∧
  (c' = 0 → ∃ ds : List BindD, Rw elB (fun b => w.heap.size ≤ b) w.heap.size w' (.slice sa sl sc) ds ∧ (commaTxt (ds.map bindTxt)).length + 2 ≤ 64 * (m - m'))
theorem arr_all {cs : Array Value} (h : ∀ v ∈ cs.toList, v.oneCell' = true) : cs.all (·.oneCell') = true := by
 rw [Array.all_eq_true_iff_forall_mem]
 intro v hv; exact h v (by simpa using hv)
theorem binds_any (mu : Bool) (br : Nat) (s : ByteArray) (c : Int) (m : Nat) (w : World) (h : Sx br s w c m) :
  Calls Tryz.prog 77 #[.pointer (some ⟨br, 0, none⟩), .bool mu] w (BsPost br s c m w) := by
 have X0 := hI h
 have hlt := h.lt
 have hm60 : m ≤ 60001 := h.le
 have K0 : Hid (Kq br w w) := Kq.refl _ _
 clear h
 go_enter Tryz.func77, Tryz.ntmps77
 go_wp2_with fail
 refine (must_any X0.out _).mono ?_
 rintro e w1 ⟨rfl, hk, c1, m1, hx, ha⟩
 have z1 : w.heap.size ≤ w1.heap.size := hk.size
 have KK := hI hk
 have K1 : Hid (Kq br w w1) := K0.out.trans hk
 have X1 := hI hx
 have A1 := hI ha
 clear hk hx ha
 clear KK
 have hm61 : m1 ≤ 60001 := X1.out.le
 go_wp2_with fail
 cases mu
 ·refine is_alt X1.out _ ?_ ?_
  ·intro _ _ _ _ _
   go_wp2_with fail
   refine (must_any X1.out _).mono ?_
   rintro e w2 ⟨rfl, hk, c2, m2, hx, ha⟩
   have z2 : w1.heap.size ≤ w2.heap.size := hk.size
   have KK := hI hk
   have K2 : Hid (Kq br w w2) := K1.out.trans hk
   have X2 := hI hx
   have A2 := hI ha
   clear hk hx ha
   clear KK
   go_wp2_with fail
   go_ret
   refine ⟨_, _, _, rfl, K2.out, c2, m2, X2.out, Adv.trans (A1.out) (A2.out), fun hc => ?_⟩
   obtain ⟨hc1, hm2⟩ := A2.out.2 hc
   obtain ⟨_, hm1⟩ := A1.out.2 hc1
   exact ⟨[], Rw.nil _ _ _ _, by simp only [List.map_nil, commaTxt, lnN]; omega⟩
  ·go_wp2_with fail
   refine (bind_any false br s c1 m1 w1 X1.out).mono ?_
   rintro e w2 ⟨cs2, rfl, hsz2, hon2, hk, c2, m2, hx, ha, hp⟩
   have z2 : w1.heap.size ≤ w2.heap.size := hk.size
   have KK := hI hk
   have K2 : Hid (Kq br w w2) := K1.out.trans hk
   have X2 := hI hx
   have A2 := hI ha
   have P2_2 := hI (bi_born hp)
   clear hk hx ha hp
   clear KK
   have HON2 := hI hon2
   clear hon2
   have HSZ2 := hI hsz2
   clear hsz2
   have HTT : Hid ((w2.alloc (.cells #[.string ⟨#[]⟩, .int .i64 0, .bool false, .int .i64 0, .int .i64 0, .int .i64 0, .int .i64 0, .int .u64 0, .string ⟨#[]⟩, .slice none 0 0] 57)).there w2.heap.size 0 cs2.size) := there_new1 _ _ _ _ HSZ2.out.symm
   have HTI : Hid ((Tryz.prog.info? 57).map (·.size) = some cs2.size) := info57s.trans (congrArg some HSZ2.out.symm)
   have HTO : Hid (cs2.all (·.oneCell') = true) := arr_all HON2.out
   go_upto_region 6 with ((with_reducible refine wpList_id ?_); first | (refine wpList_store_mid rfl 57 (.tmp 7) (.tmp 19) rfl (w2.heap.size) 0 cs2 rfl rfl HTT.out HTI.out HTO.out ?_))
   generalize hWW : w2.alloc (.cells _ 57) = w3
   clear HTT HTI HTO
   obtain ⟨zz, bb, oo, kk⟩ := one_box hWW
   have z3 : w2.heap.size < w3.heap.size := by omega
   have K3 : Hid (Kq br w w3) := K2.out.trans (kk br).out
   have X3 : Hid (Sx br s w3 c2 m2) := X2.out.to (oo br X2.out.lt)
   clear X2 K2
   have P2_3 := hI (bi_to P2_2.out (fun k o hb h => (oo k (heap_lt h)).trans h))
   clear P2_2
   obtain ⟨cT_3, LT_3⟩ : ∃ cs, Hid (Lb w3 (w2.heap.size) 10 57 cs) := ⟨_, ⟨bb, rfl, one_of rfl⟩⟩
   clear hWW zz oo kk bb
   generalize hS : w3.setCells (w2.heap.size) 0 _ = w4
   replace hS : setFrom w3 (w2.heap.size) 0 cs2.toList = w4 := (setCells_from _ _ _ _).symm.trans hS
   obtain ⟨hr, zz, oo, kk, xx⟩ := lb_copy hS LT_3.out HSZ2.out
   have z4 : w3.heap.size ≤ w4.heap.size := by omega
   have K4 : Hid (Kq br w w4) := kk br w K3.out (by omega)
   have X4 : Hid (Sx br s w4 c2 m2) := xx br s c2 m2 X3.out (by omega)
   have LT_4 : Hid (Lb w4 (w2.heap.size) 10 57 cs2) := ⟨hr, HSZ2.out, HON2.out⟩
   clear LT_3 X3 K3
   have P2_4 := hI (bi_to P2_3.out (fun k o hb h => (oo k (by omega)).trans h))
   clear P2_3
   clear hS hr zz oo kk xx
   obtain ⟨xr5, hxo5, hxS5⟩ := Rw.own (Rw.nil elB (fun b => w1.heap.size ≤ b ∧ b ≠ w2.heap.size) w1.heap.size w4) (x0 := w4.heap.size) (by show w1.heap.size ≤ w4.heap.size ∧ w4.heap.size ≠ w2.heap.size; omega)
   have hxS5 : w1.heap.size ≤ xr5 ∧ xr5 ≠ w2.heap.size := hxS5
   have HXO5 := hI hxo5
   clear hxo5
   obtain ⟨i5, hi, hzz, hsz, hby⟩ := info57'
   have HI5 := hI hi
   have HZ5 := hI hzz
   have HS5 := hI hsz
   have HB5 := hI hby
   clear hi hzz hsz hby
   have HSZ5 : Hid (cs2.size = 10) := LT_4.out.size
   have HLE5 : Hid (cs2.toList.length = 1 * 10) := by show _ = _; rw [Array.length_toList, HSZ5.out]
   have HIN5 : Hid ((Tryz.prog.info? 57).map (·.size) = some cs2.toList.length) := by show _ = _; rw [HLE5.out]; exact info57s
   have HWH5 : Hid (w4.rangeAt (w2.heap.size) 0 cs2.toList) := LT_4.out.whole
   go_wp2_with ((with_reducible refine wpList_id ?_); first | (refine wpList_load_mid rfl 57 (.tmp 7) rfl (w2.heap.size) 0 rfl cs2.toList _ HWH5.out Tryz.underlying57 rfl HIN5.out ?_) | (refine wpList_build_one rfl 36 (.tmp 21) rfl 57 cs2 10 rfl Tryz.underlying36 i5 HI5.out _ HZ5.out HS5.out HSZ5.out (by decide) (by decide) ?_) | (at_builtin; refine wpList_append_lies _ rfl (.tmp 20) (.tmp 22) 36 rfl (w1.heap.size) 57 i5 _ 10 112 Tryz.underlying36 HI5.out HZ5.out HS5.out HB5.out rfl (by decide) (.slice none 0 0) (0) _ rfl (Rw.alloc (Rw.nil elB (fun b => w1.heap.size ≤ b ∧ b ≠ w2.heap.size) w1.heap.size w4) _).1 ⟨w4.heap.size, 0, none⟩ 1 1 cs2.toList rfl HLE5.out (new_cellsA w4 57 cs2) LT_4.out.one (by decide) (by decide) (by decide) (by simp; omega) _ rfl ?_; intro g5 cap5 w5 hownX hgrowX hatX hltX; have OB := hI hownX; have GB := hI hgrowX; have TB := hI hatX; clear hownX hgrowX hatX))
   obtain ⟨kk, ⟨sg5, sz5⟩, rr⟩ := row_app0 (S := fun b => w1.heap.size ≤ b ∧ b ≠ w2.heap.size) (xr := xr5) (Rw.nil elB (fun b => w1.heap.size ≤ b ∧ b ≠ w2.heap.size) w1.heap.size w4) OB.out GB.out TB.out rfl hltX HXO5.out (by show w1.heap.size ≤ _ ∧ _ ≠ w2.heap.size; simp only [World.size_alloc]; omega)
   have sg5 : w1.heap.size ≤ g5 ∧ g5 ≠ w2.heap.size := sg5
   have z5 : w4.heap.size ≤ w5.heap.size := kk.size
   have K5 : Hid (Kq br w w5) := K4.out.comp kk (by omega)
   have X5 : Hid (Sx br s w5 c2 m2) := kk.sx (by omega) X4.out
   have KK := hI kk
   have RR := hI rr
   clear kk rr hltX OB GB TB X4 K4 HI5 HZ5 HS5 HB5 HSZ5 HLE5 HIN5 HWH5
   have PM_5 : Hid (c2 = 0 → ∃ xs : List (BindD), Rw elB (fun b => w1.heap.size ≤ b ∧ b ≠ w2.heap.size) (w1.heap.size) w5 (.slice (some ⟨g5, 0, none⟩) (1) cap5) xs ∧ (1 ≤ xs.length ∧ xs.length + m2 ≤ m1 ∧ (commaTxt (xs.map bindTxt)).length + 2 ≤ 64 * (m1 - m2))) := by
    intro hc
    obtain ⟨d, hp, hd, hl⟩ := P2_4.out hc
    have hm := (A2.out.2 hc).2
    have hbl := bindTxt_len d
    refine ⟨[d], RR.out [d] (by simp) (by simp [elB, hd]) rfl ?_, by simp, by simp only [lnC, lnN]; omega, by simp only [List.map_cons, List.map_nil, commaTxt]; omega⟩
    intro y hy
    rw [List.mem_singleton] at hy
    subst hy
    refine elB.mono ?_ (fun _ _ _ _ hu => hu) hp
    intro b hb
    have h1 : w1.heap.size ≤ b ∧ b < w2.heap.size := hb
    exact ⟨by show w1.heap.size ≤ b ∧ b ≠ w2.heap.size; omega, by simp [Value.ownBlock]⟩
   clear P2_4
   have LT_5 := vK KK LT_4 (by omega)
   clear LT_4
   clear KK RR HXO5
   go_loopg [5] m2 (fun gk o wr => ∃ (cr : Int) (mr : Nat) (sa : Option Addr) (sl sc : Nat) (cs : Array Value), o = .slice sa sl sc ∧ gk = mr ∧ Hid (Sx br s wr cr mr) ∧ Hid (Kq br w wr) ∧ Hid (Lb wr (w2.heap.size) 10 57 cs) ∧ w5.heap.size ≤ wr.heap.size ∧ Hid (cr = 0 → ∃ xs : List BindD, Rw elB (fun b => w1.heap.size ≤ b ∧ b ≠ w2.heap.size) w1.heap.size wr (.slice sa sl sc) xs ∧ (1 ≤ xs.length ∧ xs.length + mr ≤ m1 ∧ (commaTxt (xs.map bindTxt)).length + 2 ≤ 64 * (m1 - mr))) ∧ mr ≤ m2 ∧ Hid (cr = 0 → c2 = 0))
   case atStart => exact ⟨c2, m2, _, _, _, _, rfl, rfl, X5, K5, LT_5, Nat.le_refl _, PM_5, Nat.le_refl _, (fun h => h : Hid _)⟩
   case round =>
    obtain ⟨cr, mr, sa, sl, sc, cs, rfl, hgk, XR, KR, LT_r, zR, PM_r, hmr, HC2⟩ := hrel
    clear X5 K5 LT_5 PM_5
    go_wp2_with fail
    refine accept_alt XR.out _ ?_ ?_
    ·intro hc0 m6 w6 hm6 hk hx
     subst hc0
     have z6 : wr.heap.size ≤ w6.heap.size := hk.size
     have KK := hI hk
     have K6 : Hid (Kq br w w6) := KR.out.trans hk
     have X6 := hI hx
     clear hk hx XR KR
     have LT_6 := vK KK LT_r (by omega)
     clear LT_r
     have PM_6 := hI (rw_to PM_r.out (fun k o hb h => KK.out.get (by omega) h))
     clear PM_r
     clear KK
     obtain ⟨es, hR, hn1, hn2, hl2⟩ := PM_6.out rfl
     have HR := hI hR.strong
     have HLL := hI hl2
     clear hR hl2 PM_6
     go_wp2_with fail
     refine (bind_any false br s 0 m6 w6 X6.out).mono ?_
     rintro e w7 ⟨cs7, rfl, hsz7, hon7, hk, c7, m7, hx, ha, hp⟩
     have z7 : w6.heap.size ≤ w7.heap.size := hk.size
     have KK := hI hk
     have K7 : Hid (Kq br w w7) := K6.out.trans hk
     have X7 := hI hx
     have A7 := hI ha
     have P7_7 := hI (bi_born hp)
     clear hk hx ha hp
     have LT_7 := vK KK LT_6 (by omega)
     clear LT_6
     have PM_7 := hI (Rw.to HR.out (fun k o hb h => KK.out.get (by omega) h))
     clear HR
     clear KK
     have HON7 := hI hon7
     clear hon7
     have HSZ7 := hI hsz7
     clear hsz7
     have HTT : Hid (w7.there (w2.heap.size) 0 cs7.size) := LT_7.out.there 0 _ (by rw [HSZ7.out]; decide)
     have HTI : Hid ((Tryz.prog.info? 57).map (·.size) = some cs7.size) := info57s.trans (congrArg some HSZ7.out.symm)
     have HTO : Hid (cs7.all (·.oneCell') = true) := arr_all HON7.out
     go_upto_region 9 with ((with_reducible refine wpList_id ?_); first | (refine wpList_store_mid rfl 57 (.tmp 7) (.tmp 28) rfl (w2.heap.size) 0 cs7 rfl rfl HTT.out HTI.out HTO.out ?_))
     generalize hS : w7.setCells (w2.heap.size) 0 _ = w8
     clear HTT HTI HTO
     replace hS : setFrom w7 (w2.heap.size) 0 cs7.toList = w8 := (setCells_from _ _ _ _).symm.trans hS
     obtain ⟨hr, zz, oo, kk, xx⟩ := lb_copy hS LT_7.out HSZ7.out
     have z8 : w7.heap.size ≤ w8.heap.size := by omega
     have K8 : Hid (Kq br w w8) := kk br w K7.out (by omega)
     have X8 : Hid (Sx br s w8 c7 m7) := xx br s c7 m7 X7.out (by omega)
     have LT_8 : Hid (Lb w8 (w2.heap.size) 10 57 cs7) := ⟨hr, HSZ7.out, HON7.out⟩
     clear LT_7 X7 K7
     have PM_8 := hI (Rw.to PM_7.out (fun k o hb h => (oo k (by omega)).trans h))
     have P7_8 := hI (bi_to P7_7.out (fun k o hb h => (oo k (by omega)).trans h))
     clear PM_7 P7_7
     clear hS hr zz oo kk xx
     obtain ⟨xr9, hxo9, hxS9⟩ := Rw.own ((PM_8.out.sub (S' := fun b => w1.heap.size ≤ b ∧ b ≠ w2.heap.size) (fun b hb => by show w1.heap.size ≤ b ∧ b ≠ w2.heap.size; omega))) (x0 := w8.heap.size) (by show w1.heap.size ≤ w8.heap.size ∧ w8.heap.size ≠ w2.heap.size; omega)
     have hxS9 : w1.heap.size ≤ xr9 ∧ xr9 ≠ w2.heap.size := hxS9
     have HXO9 := hI hxo9
     clear hxo9
     obtain ⟨i5, hi, hzz, hsz, hby⟩ := info57'
     have HI5 := hI hi
     have HZ5 := hI hzz
     have HS5 := hI hsz
     have HB5 := hI hby
     clear hi hzz hsz hby
     have HSZ5 : Hid (cs7.size = 10) := LT_8.out.size
     have HLE5 : Hid (cs7.toList.length = 1 * 10) := by show _ = _; rw [Array.length_toList, HSZ5.out]
     have HIN5 : Hid ((Tryz.prog.info? 57).map (·.size) = some cs7.toList.length) := by show _ = _; rw [HLE5.out]; exact info57s
     have HWH5 : Hid (w8.rangeAt (w2.heap.size) 0 cs7.toList) := LT_8.out.whole
     go_wp2_with ((with_reducible refine wpList_id ?_); first | (refine wpList_load_mid rfl 57 (.tmp 7) rfl (w2.heap.size) 0 rfl cs7.toList _ HWH5.out Tryz.underlying57 rfl HIN5.out ?_) | (refine wpList_build_one rfl 36 (.tmp 30) rfl 57 cs7 10 rfl Tryz.underlying36 i5 HI5.out _ HZ5.out HS5.out HSZ5.out (by decide) (by decide) ?_) | (at_builtin; refine wpList_append_lies _ rfl (.tmp 29) (.tmp 31) 36 rfl (w1.heap.size) 57 i5 _ 10 112 Tryz.underlying36 HI5.out HZ5.out HS5.out HB5.out rfl (by decide) (.slice sa sl sc) (es.length) _ rfl (Rw.alloc ((PM_8.out.sub (S' := fun b => w1.heap.size ≤ b ∧ b ≠ w2.heap.size) (fun b hb => by show w1.heap.size ≤ b ∧ b ≠ w2.heap.size; omega))) _).1 ⟨w8.heap.size, 0, none⟩ 1 1 cs7.toList rfl HLE5.out (new_cellsA w8 57 cs7) LT_8.out.one (by decide) (by simp only [maxLen]; omega) (by omega) (by simp; omega) _ rfl ?_; intro g9 cap9 w9 hownX hgrowX hatX hltX; have OB := hI hownX; have GB := hI hgrowX; have TB := hI hatX; clear hownX hgrowX hatX))
     obtain ⟨kk, ⟨sg9, sz9⟩, rr⟩ := row_app0 (S := fun b => w1.heap.size ≤ b ∧ b ≠ w2.heap.size) (xr := xr9) ((PM_8.out.sub (S' := fun b => w1.heap.size ≤ b ∧ b ≠ w2.heap.size) (fun b hb => by show w1.heap.size ≤ b ∧ b ≠ w2.heap.size; omega))) OB.out GB.out TB.out rfl hltX HXO9.out (by show w1.heap.size ≤ _ ∧ _ ≠ w2.heap.size; simp only [World.size_alloc]; omega)
     have sg9 : w1.heap.size ≤ g9 ∧ g9 ≠ w2.heap.size := sg9
     have z9 : w8.heap.size ≤ w9.heap.size := kk.size
     have K9 : Hid (Kq br w w9) := K8.out.comp kk (by omega)
     have X9 : Hid (Sx br s w9 c7 m7) := kk.sx (by omega) X8.out
     have KK := hI kk
     have RR := hI rr
     clear kk rr hltX OB GB TB X8 K8 HI5 HZ5 HS5 HB5 HSZ5 HLE5 HIN5 HWH5
     have PM2_9 : Hid (c7 = 0 → ∃ xs : List (BindD), Rw elB (fun b => w1.heap.size ≤ b ∧ b ≠ w2.heap.size) (w1.heap.size) w9 (.slice (some ⟨g9, 0, none⟩) (es.length + 1) cap9) xs ∧ (1 ≤ xs.length ∧ xs.length + m7 ≤ m1 ∧ (commaTxt (xs.map bindTxt)).length + 2 ≤ 64 * (m1 - m7))) := by
      intro hc
      obtain ⟨d, hp, hd, hl⟩ := P7_8.out hc
      have hm := (A7.out.2 hc).2
      have hbl := bindTxt_len d
      have hl0 := HLL.out
      refine ⟨es ++ [d], RR.out [d] (by simp) (by simp [elB, hd]) rfl ?_, ?_⟩
      ·intro y hy
       rw [List.mem_singleton] at hy
       subst hy
       refine elB.mono ?_ (fun _ _ _ _ hu => hu) hp
       intro b hb
       have h1 : w6.heap.size ≤ b ∧ b < w7.heap.size := hb
       exact ⟨by show w1.heap.size ≤ b ∧ b ≠ w2.heap.size; omega, Rw.not_own PM_8.out (by show ¬ ((w1.heap.size ≤ b ∧ b ≠ w2.heap.size) ∧ b < w6.heap.size); omega)⟩
      ·rw [List.map_append, List.map_cons, List.map_nil, commaTxt_snoc _ _ (by intro e; have := congrArg List.length e; rw [List.length_map] at this; simp only [lnN] at this; omega)]
       simp only [lnA, lnC, lnN]
       exact ⟨by omega, by omega, by omega⟩
     clear PM_8
     clear P7_8
     have LT_9 := vK KK LT_8 (by omega)
     clear LT_8
     clear KK RR HXO9
     go_roundg m7
     case measure => have := A7.out.1; omega
     case rel => exact ⟨c7, m7, _, _, _, _, rfl, rfl, X9, K9, LT_9, by omega, PM2_9, by have := A7.out.1; omega, (fun _ => HC2.out (by trivial) : Hid _)⟩
    go_wp2_with fail
    refine (must_any XR.out _).mono ?_
    rintro e w10 ⟨rfl, hk, c10, m10, hx, ha⟩
    have z10 : wr.heap.size ≤ w10.heap.size := hk.size
    have KK := hI hk
    have K10 : Hid (Kq br w w10) := KR.out.trans hk
    have X10 := hI hx
    have A10 := hI ha
    clear hk hx ha
    have LT_10 := vK KK LT_r (by omega)
    clear LT_r
    have PM_10 := hI (rw_to PM_r.out (fun k o hb h => KK.out.get (by omega) h))
    clear PM_r
    clear KK
    go_wp2_with fail
    go_ret
    refine ⟨_, _, _, rfl, K10.out, c10, m10, X10.out, adv_ge (Adv.trans (A1.out) (A2.out)) HC2.out hmr A10.out, fun hc => ?_⟩
    obtain ⟨hcr, hm10⟩ := A10.out.2 hc
    obtain ⟨hc1, hm2⟩ := A2.out.2 (HC2.out hcr)
    obtain ⟨_, hm1⟩ := A1.out.2 hc1
    obtain ⟨xs, hR, _, _, hl⟩ := PM_10.out hcr
    exact ⟨xs, hR.sub2 (by omega) (fun b hb => by show _ ≤ _; omega), by omega⟩
 ·refine is_some X1.out _ fun bq => ?_
  go_wp2_with fail
  refine (bind_any true br s c1 m1 w1 X1.out).mono ?_
  rintro e w2 ⟨cs2, rfl, hsz2, hon2, hk, c2, m2, hx, ha, hp⟩
  have z2 : w1.heap.size ≤ w2.heap.size := hk.size
  have KK := hI hk
  have K2 : Hid (Kq br w w2) := K1.out.trans hk
  have X2 := hI hx
  have A2 := hI ha
  have P2_2 := hI (bi_born hp)
  clear hk hx ha hp
  clear KK
  have HON2 := hI hon2
  clear hon2
  have HSZ2 := hI hsz2
  clear hsz2
  have HTT : Hid ((w2.alloc (.cells #[.string ⟨#[]⟩, .int .i64 0, .bool false, .int .i64 0, .int .i64 0, .int .i64 0, .int .i64 0, .int .u64 0, .string ⟨#[]⟩, .slice none 0 0] 57)).there w2.heap.size 0 cs2.size) := there_new1 _ _ _ _ HSZ2.out.symm
  have HTI : Hid ((Tryz.prog.info? 57).map (·.size) = some cs2.size) := info57s.trans (congrArg some HSZ2.out.symm)
  have HTO : Hid (cs2.all (·.oneCell') = true) := arr_all HON2.out
  go_upto_region 6 with ((with_reducible refine wpList_id ?_); first | (refine wpList_store_mid rfl 57 (.tmp 7) (.tmp 19) rfl (w2.heap.size) 0 cs2 rfl rfl HTT.out HTI.out HTO.out ?_))
  generalize hWW : w2.alloc (.cells _ 57) = w3
  clear HTT HTI HTO
  obtain ⟨zz, bb, oo, kk⟩ := one_box hWW
  have z3 : w2.heap.size < w3.heap.size := by omega
  have K3 : Hid (Kq br w w3) := K2.out.trans (kk br).out
  have X3 : Hid (Sx br s w3 c2 m2) := X2.out.to (oo br X2.out.lt)
  clear X2 K2
  have P2_3 := hI (bi_to P2_2.out (fun k o hb h => (oo k (heap_lt h)).trans h))
  clear P2_2
  obtain ⟨cT_3, LT_3⟩ : ∃ cs, Hid (Lb w3 (w2.heap.size) 10 57 cs) := ⟨_, ⟨bb, rfl, one_of rfl⟩⟩
  clear hWW zz oo kk bb
  generalize hS : w3.setCells (w2.heap.size) 0 _ = w4
  replace hS : setFrom w3 (w2.heap.size) 0 cs2.toList = w4 := (setCells_from _ _ _ _).symm.trans hS
  obtain ⟨hr, zz, oo, kk, xx⟩ := lb_copy hS LT_3.out HSZ2.out
  have z4 : w3.heap.size ≤ w4.heap.size := by omega
  have K4 : Hid (Kq br w w4) := kk br w K3.out (by omega)
  have X4 : Hid (Sx br s w4 c2 m2) := xx br s c2 m2 X3.out (by omega)
  have LT_4 : Hid (Lb w4 (w2.heap.size) 10 57 cs2) := ⟨hr, HSZ2.out, HON2.out⟩
  clear LT_3 X3 K3
  have P2_4 := hI (bi_to P2_3.out (fun k o hb h => (oo k (by omega)).trans h))
  clear P2_3
  clear hS hr zz oo kk xx
  obtain ⟨xr5, hxo5, hxS5⟩ := Rw.own (Rw.nil elB (fun b => w1.heap.size ≤ b ∧ b ≠ w2.heap.size) w1.heap.size w4) (x0 := w4.heap.size) (by show w1.heap.size ≤ w4.heap.size ∧ w4.heap.size ≠ w2.heap.size; omega)
  have hxS5 : w1.heap.size ≤ xr5 ∧ xr5 ≠ w2.heap.size := hxS5
  have HXO5 := hI hxo5
  clear hxo5
  obtain ⟨i5, hi, hzz, hsz, hby⟩ := info57'
  have HI5 := hI hi
  have HZ5 := hI hzz
  have HS5 := hI hsz
  have HB5 := hI hby
  clear hi hzz hsz hby
  have HSZ5 : Hid (cs2.size = 10) := LT_4.out.size
  have HLE5 : Hid (cs2.toList.length = 1 * 10) := by show _ = _; rw [Array.length_toList, HSZ5.out]
  have HIN5 : Hid ((Tryz.prog.info? 57).map (·.size) = some cs2.toList.length) := by show _ = _; rw [HLE5.out]; exact info57s
  have HWH5 : Hid (w4.rangeAt (w2.heap.size) 0 cs2.toList) := LT_4.out.whole
  go_wp2_with ((with_reducible refine wpList_id ?_); first | (refine wpList_load_mid rfl 57 (.tmp 7) rfl (w2.heap.size) 0 rfl cs2.toList _ HWH5.out Tryz.underlying57 rfl HIN5.out ?_) | (refine wpList_build_one rfl 36 (.tmp 21) rfl 57 cs2 10 rfl Tryz.underlying36 i5 HI5.out _ HZ5.out HS5.out HSZ5.out (by decide) (by decide) ?_) | (at_builtin; refine wpList_append_lies _ rfl (.tmp 20) (.tmp 22) 36 rfl (w1.heap.size) 57 i5 _ 10 112 Tryz.underlying36 HI5.out HZ5.out HS5.out HB5.out rfl (by decide) (.slice none 0 0) (0) _ rfl (Rw.alloc (Rw.nil elB (fun b => w1.heap.size ≤ b ∧ b ≠ w2.heap.size) w1.heap.size w4) _).1 ⟨w4.heap.size, 0, none⟩ 1 1 cs2.toList rfl HLE5.out (new_cellsA w4 57 cs2) LT_4.out.one (by decide) (by decide) (by decide) (by simp; omega) _ rfl ?_; intro g5 cap5 w5 hownX hgrowX hatX hltX; have OB := hI hownX; have GB := hI hgrowX; have TB := hI hatX; clear hownX hgrowX hatX))
  obtain ⟨kk, ⟨sg5, sz5⟩, rr⟩ := row_app0 (S := fun b => w1.heap.size ≤ b ∧ b ≠ w2.heap.size) (xr := xr5) (Rw.nil elB (fun b => w1.heap.size ≤ b ∧ b ≠ w2.heap.size) w1.heap.size w4) OB.out GB.out TB.out rfl hltX HXO5.out (by show w1.heap.size ≤ _ ∧ _ ≠ w2.heap.size; simp only [World.size_alloc]; omega)
  have sg5 : w1.heap.size ≤ g5 ∧ g5 ≠ w2.heap.size := sg5
  have z5 : w4.heap.size ≤ w5.heap.size := kk.size
  have K5 : Hid (Kq br w w5) := K4.out.comp kk (by omega)
  have X5 : Hid (Sx br s w5 c2 m2) := kk.sx (by omega) X4.out
  have KK := hI kk
  have RR := hI rr
  clear kk rr hltX OB GB TB X4 K4 HI5 HZ5 HS5 HB5 HSZ5 HLE5 HIN5 HWH5
  have PM_5 : Hid (c2 = 0 → ∃ xs : List (BindD), Rw elB (fun b => w1.heap.size ≤ b ∧ b ≠ w2.heap.size) (w1.heap.size) w5 (.slice (some ⟨g5, 0, none⟩) (1) cap5) xs ∧ (1 ≤ xs.length ∧ xs.length + m2 ≤ m1 ∧ (commaTxt (xs.map bindTxt)).length + 2 ≤ 64 * (m1 - m2))) := by
   intro hc
   obtain ⟨d, hp, hd, hl⟩ := P2_4.out hc
   have hm := (A2.out.2 hc).2
   have hbl := bindTxt_len d
   refine ⟨[d], RR.out [d] (by simp) (by simp [elB, hd]) rfl ?_, by simp, by simp only [lnC, lnN]; omega, by simp only [List.map_cons, List.map_nil, commaTxt]; omega⟩
   intro y hy
   rw [List.mem_singleton] at hy
   subst hy
   refine elB.mono ?_ (fun _ _ _ _ hu => hu) hp
   intro b hb
   have h1 : w1.heap.size ≤ b ∧ b < w2.heap.size := hb
   exact ⟨by show w1.heap.size ≤ b ∧ b ≠ w2.heap.size; omega, by simp [Value.ownBlock]⟩
  clear P2_4
  have LT_5 := vK KK LT_4 (by omega)
  clear LT_4
  clear KK RR HXO5
  go_loopg [5] m2 (fun gk o wr => ∃ (cr : Int) (mr : Nat) (sa : Option Addr) (sl sc : Nat) (cs : Array Value), o = .slice sa sl sc ∧ gk = mr ∧ Hid (Sx br s wr cr mr) ∧ Hid (Kq br w wr) ∧ Hid (Lb wr (w2.heap.size) 10 57 cs) ∧ w5.heap.size ≤ wr.heap.size ∧ Hid (cr = 0 → ∃ xs : List BindD, Rw elB (fun b => w1.heap.size ≤ b ∧ b ≠ w2.heap.size) w1.heap.size wr (.slice sa sl sc) xs ∧ (1 ≤ xs.length ∧ xs.length + mr ≤ m1 ∧ (commaTxt (xs.map bindTxt)).length + 2 ≤ 64 * (m1 - mr))) ∧ mr ≤ m2 ∧ Hid (cr = 0 → c2 = 0))
  case atStart => exact ⟨c2, m2, _, _, _, _, rfl, rfl, X5, K5, LT_5, Nat.le_refl _, PM_5, Nat.le_refl _, (fun h => h : Hid _)⟩
  case round =>
   obtain ⟨cr, mr, sa, sl, sc, cs, rfl, hgk, XR, KR, LT_r, zR, PM_r, hmr, HC2⟩ := hrel
   clear X5 K5 LT_5 PM_5
   go_wp2_with fail
   refine accept_alt XR.out _ ?_ ?_
   ·intro hc0 m6 w6 hm6 hk hx
    subst hc0
    have z6 : wr.heap.size ≤ w6.heap.size := hk.size
    have KK := hI hk
    have K6 : Hid (Kq br w w6) := KR.out.trans hk
    have X6 := hI hx
    clear hk hx XR KR
    have LT_6 := vK KK LT_r (by omega)
    clear LT_r
    have PM_6 := hI (rw_to PM_r.out (fun k o hb h => KK.out.get (by omega) h))
    clear PM_r
    clear KK
    obtain ⟨es, hR, hn1, hn2, hl2⟩ := PM_6.out rfl
    have HR := hI hR.strong
    have HLL := hI hl2
    clear hR hl2 PM_6
    go_wp2_with fail
    refine (bind_any true br s 0 m6 w6 X6.out).mono ?_
    rintro e w7 ⟨cs7, rfl, hsz7, hon7, hk, c7, m7, hx, ha, hp⟩
    have z7 : w6.heap.size ≤ w7.heap.size := hk.size
    have KK := hI hk
    have K7 : Hid (Kq br w w7) := K6.out.trans hk
    have X7 := hI hx
    have A7 := hI ha
    have P7_7 := hI (bi_born hp)
    clear hk hx ha hp
    have LT_7 := vK KK LT_6 (by omega)
    clear LT_6
    have PM_7 := hI (Rw.to HR.out (fun k o hb h => KK.out.get (by omega) h))
    clear HR
    clear KK
    have HON7 := hI hon7
    clear hon7
    have HSZ7 := hI hsz7
    clear hsz7
    have HTT : Hid (w7.there (w2.heap.size) 0 cs7.size) := LT_7.out.there 0 _ (by rw [HSZ7.out]; decide)
    have HTI : Hid ((Tryz.prog.info? 57).map (·.size) = some cs7.size) := info57s.trans (congrArg some HSZ7.out.symm)
    have HTO : Hid (cs7.all (·.oneCell') = true) := arr_all HON7.out
    go_upto_region 9 with ((with_reducible refine wpList_id ?_); first | (refine wpList_store_mid rfl 57 (.tmp 7) (.tmp 28) rfl (w2.heap.size) 0 cs7 rfl rfl HTT.out HTI.out HTO.out ?_))
    generalize hS : w7.setCells (w2.heap.size) 0 _ = w8
    clear HTT HTI HTO
    replace hS : setFrom w7 (w2.heap.size) 0 cs7.toList = w8 := (setCells_from _ _ _ _).symm.trans hS
    obtain ⟨hr, zz, oo, kk, xx⟩ := lb_copy hS LT_7.out HSZ7.out
    have z8 : w7.heap.size ≤ w8.heap.size := by omega
    have K8 : Hid (Kq br w w8) := kk br w K7.out (by omega)
    have X8 : Hid (Sx br s w8 c7 m7) := xx br s c7 m7 X7.out (by omega)
    have LT_8 : Hid (Lb w8 (w2.heap.size) 10 57 cs7) := ⟨hr, HSZ7.out, HON7.out⟩
    clear LT_7 X7 K7
    have PM_8 := hI (Rw.to PM_7.out (fun k o hb h => (oo k (by omega)).trans h))
    have P7_8 := hI (bi_to P7_7.out (fun k o hb h => (oo k (by omega)).trans h))
    clear PM_7 P7_7
    clear hS hr zz oo kk xx
    obtain ⟨xr9, hxo9, hxS9⟩ := Rw.own ((PM_8.out.sub (S' := fun b => w1.heap.size ≤ b ∧ b ≠ w2.heap.size) (fun b hb => by show w1.heap.size ≤ b ∧ b ≠ w2.heap.size; omega))) (x0 := w8.heap.size) (by show w1.heap.size ≤ w8.heap.size ∧ w8.heap.size ≠ w2.heap.size; omega)
    have hxS9 : w1.heap.size ≤ xr9 ∧ xr9 ≠ w2.heap.size := hxS9
    have HXO9 := hI hxo9
    clear hxo9
    obtain ⟨i5, hi, hzz, hsz, hby⟩ := info57'
    have HI5 := hI hi
    have HZ5 := hI hzz
    have HS5 := hI hsz
    have HB5 := hI hby
    clear hi hzz hsz hby
    have HSZ5 : Hid (cs7.size = 10) := LT_8.out.size
    have HLE5 : Hid (cs7.toList.length = 1 * 10) := by show _ = _; rw [Array.length_toList, HSZ5.out]
    have HIN5 : Hid ((Tryz.prog.info? 57).map (·.size) = some cs7.toList.length) := by show _ = _; rw [HLE5.out]; exact info57s
    have HWH5 : Hid (w8.rangeAt (w2.heap.size) 0 cs7.toList) := LT_8.out.whole
    go_wp2_with ((with_reducible refine wpList_id ?_); first | (refine wpList_load_mid rfl 57 (.tmp 7) rfl (w2.heap.size) 0 rfl cs7.toList _ HWH5.out Tryz.underlying57 rfl HIN5.out ?_) | (refine wpList_build_one rfl 36 (.tmp 30) rfl 57 cs7 10 rfl Tryz.underlying36 i5 HI5.out _ HZ5.out HS5.out HSZ5.out (by decide) (by decide) ?_) | (at_builtin; refine wpList_append_lies _ rfl (.tmp 29) (.tmp 31) 36 rfl (w1.heap.size) 57 i5 _ 10 112 Tryz.underlying36 HI5.out HZ5.out HS5.out HB5.out rfl (by decide) (.slice sa sl sc) (es.length) _ rfl (Rw.alloc ((PM_8.out.sub (S' := fun b => w1.heap.size ≤ b ∧ b ≠ w2.heap.size) (fun b hb => by show w1.heap.size ≤ b ∧ b ≠ w2.heap.size; omega))) _).1 ⟨w8.heap.size, 0, none⟩ 1 1 cs7.toList rfl HLE5.out (new_cellsA w8 57 cs7) LT_8.out.one (by decide) (by simp only [maxLen]; omega) (by omega) (by simp; omega) _ rfl ?_; intro g9 cap9 w9 hownX hgrowX hatX hltX; have OB := hI hownX; have GB := hI hgrowX; have TB := hI hatX; clear hownX hgrowX hatX))
    obtain ⟨kk, ⟨sg9, sz9⟩, rr⟩ := row_app0 (S := fun b => w1.heap.size ≤ b ∧ b ≠ w2.heap.size) (xr := xr9) ((PM_8.out.sub (S' := fun b => w1.heap.size ≤ b ∧ b ≠ w2.heap.size) (fun b hb => by show w1.heap.size ≤ b ∧ b ≠ w2.heap.size; omega))) OB.out GB.out TB.out rfl hltX HXO9.out (by show w1.heap.size ≤ _ ∧ _ ≠ w2.heap.size; simp only [World.size_alloc]; omega)
    have sg9 : w1.heap.size ≤ g9 ∧ g9 ≠ w2.heap.size := sg9
    have z9 : w8.heap.size ≤ w9.heap.size := kk.size
    have K9 : Hid (Kq br w w9) := K8.out.comp kk (by omega)
    have X9 : Hid (Sx br s w9 c7 m7) := kk.sx (by omega) X8.out
    have KK := hI kk
    have RR := hI rr
    clear kk rr hltX OB GB TB X8 K8 HI5 HZ5 HS5 HB5 HSZ5 HLE5 HIN5 HWH5
    have PM2_9 : Hid (c7 = 0 → ∃ xs : List (BindD), Rw elB (fun b => w1.heap.size ≤ b ∧ b ≠ w2.heap.size) (w1.heap.size) w9 (.slice (some ⟨g9, 0, none⟩) (es.length + 1) cap9) xs ∧ (1 ≤ xs.length ∧ xs.length + m7 ≤ m1 ∧ (commaTxt (xs.map bindTxt)).length + 2 ≤ 64 * (m1 - m7))) := by
     intro hc
     obtain ⟨d, hp, hd, hl⟩ := P7_8.out hc
     have hm := (A7.out.2 hc).2
     have hbl := bindTxt_len d
     have hl0 := HLL.out
     refine ⟨es ++ [d], RR.out [d] (by simp) (by simp [elB, hd]) rfl ?_, ?_⟩
     ·intro y hy
      rw [List.mem_singleton] at hy
      subst hy
      refine elB.mono ?_ (fun _ _ _ _ hu => hu) hp
      intro b hb
      have h1 : w6.heap.size ≤ b ∧ b < w7.heap.size := hb
      exact ⟨by show w1.heap.size ≤ b ∧ b ≠ w2.heap.size; omega, Rw.not_own PM_8.out (by show ¬ ((w1.heap.size ≤ b ∧ b ≠ w2.heap.size) ∧ b < w6.heap.size); omega)⟩
     ·rw [List.map_append, List.map_cons, List.map_nil, commaTxt_snoc _ _ (by intro e; have := congrArg List.length e; rw [List.length_map] at this; simp only [lnN] at this; omega)]
      simp only [lnA, lnC, lnN]
      exact ⟨by omega, by omega, by omega⟩
    clear PM_8
    clear P7_8
    have LT_9 := vK KK LT_8 (by omega)
    clear LT_8
    clear KK RR HXO9
    go_roundg m7
    case measure => have := A7.out.1; omega
    case rel => exact ⟨c7, m7, _, _, _, _, rfl, rfl, X9, K9, LT_9, by omega, PM2_9, by have := A7.out.1; omega, (fun _ => HC2.out (by trivial) : Hid _)⟩
   go_wp2_with fail
   refine (must_any XR.out _).mono ?_
   rintro e w10 ⟨rfl, hk, c10, m10, hx, ha⟩
   have z10 : wr.heap.size ≤ w10.heap.size := hk.size
   have KK := hI hk
   have K10 : Hid (Kq br w w10) := KR.out.trans hk
   have X10 := hI hx
   have A10 := hI ha
   clear hk hx ha
   have LT_10 := vK KK LT_r (by omega)
   clear LT_r
   have PM_10 := hI (rw_to PM_r.out (fun k o hb h => KK.out.get (by omega) h))
   clear PM_r
   clear KK
   go_wp2_with fail
   go_ret
   refine ⟨_, _, _, rfl, K10.out, c10, m10, X10.out, adv_ge (Adv.trans (A1.out) (A2.out)) HC2.out hmr A10.out, fun hc => ?_⟩
   obtain ⟨hcr, hm10⟩ := A10.out.2 hc
   obtain ⟨hc1, hm2⟩ := A2.out.2 (HC2.out hcr)
   obtain ⟨_, hm1⟩ := A1.out.2 hc1
   obtain ⟨xs, hR, _, _, hl⟩ := PM_10.out hcr
   exact ⟨xs, hR.sub2 (by omega) (fun b hb => by show _ ≤ _; omega), by omega⟩
end Go.Proofs.YtimmmlnememjiaaGreatDoor
