import Derived.Test.YtjbnejjjbdalaaaDoorFdG
import Derived.Test.YtjbnejjjbdalaaaDoorFcL
namespace Go.Proofs.YtjbnejjjbdalaaaDoor
open Go.RowKit

theorem decode_any (B : Nat) (w : World) (hBw : B ≤ w.heap.size) (a : Option Addr) (c : Nat) (bs : List Nat) (R : RowAt B w a 1 (bs.map byteC)) (hl : bs.length < 281474976710656) (hby : ∀ x, x ∈ bs → x < 256) (hc : bs.length ≤ c) :
    Calls Tryd.prog 8 #[.slice a bs.length c] w fun e w' => DecE w bs (bitL bs) e w' := by
  have bad : gOk bs = false → (Calls Tryd.prog 8 #[.slice a bs.length c] w fun e w' => BadD w e w') → Calls Tryd.prog 8 #[.slice a bs.length c] w fun e w' => DecE w bs (bitL bs) e w' := fun h k => k.mono (fun e w' hb => ⟨fun h2 => absurd (h2.symm.trans h) (by decide), fun _ => hb⟩)
  by_cases h18 : 18 ≤ bs.length
  · by_cases hmk : bs.take 4 = markL
    · by_cases hsm : sumB (crcV (bodyL bs)) = lastL bs
      · cases hok : (shS (numN (bitL bs))).ok
        · exact bad (gok_shape hok) (decode_shape B w hBw a c bs R hl hby hc h18 hmk hsm hok)
        · exact decode_rest B w hBw a c bs R hl hby hc h18 hmk hsm hok
      · exact bad (gok_sum hsm) (decode_sum B w hBw a c bs R hl hby hc h18 hmk hsm)
    · exact bad (gok_mark hmk) (decode_mark B w hBw a c bs R hl hby hc h18 hmk)
  · exact bad (gok_short (by omega)) (decode_short w a c bs (by omega))

set_option maxRecDepth 100000 in
set_option maxHeartbeats 8000000 in
theorem ran_bad (B : Nat) (w : World) (hBw : B ≤ w.heap.size) (a : Option Addr) (c : Nat) (bs : List Nat) (R : RowAt B w a 1 (bs.map byteC)) (hl : bs.length < 281474976710656) (hby : ∀ x, x ∈ bs → x < 256) (hc : bs.length ≤ c) (hv : Vars w) (hv1 : 1 ≤ w.heap.size) (hg : gOk bs = false) (ta : Option Addr) (tn tc : Nat) :
    Calls Tryd.prog 4 #[.slice a bs.length c, .slice ta tn tc] w fun e w' => e = .returned (.bool true) ∧ Below w.heap.size w w' := by
  have RB := hidden (run_bad B w hBw a c bs R hl hby hc hg ta tn tc)
  have DB : Hid (∀ w', Below w.heap.size w w' → Calls Tryd.prog 8 #[.slice a bs.length c] w' fun e w'' => BadD w' e w'') := fun w' hw' => (decode_any B w' (Nat.le_trans hBw hw'.size) a c bs (R.to (hw'.mono hBw)) hl hby hc).mono (fun e w'' h => h.2 hg)
  have HV := hidden hv
  clear R hby hg hv
  go_enter Tryd.func4, Tryd.ntmps4
  go_wp2_with fail
  go_at_call 7
  refine RB.out.mono ?_
  rintro e w1 ⟨fb, rfl, hfb, hfl, hb1⟩
  have HFB := hidden hfb
  have HB1 := hidden hb1
  clear hfb hb1 RB
  go_wp2_with fail
  go_at_call 8
  refine (DB.out _ HB1.out).mono ?_
  rintro e w2 ⟨rfl, hb2⟩
  have HB2 : Hid (Below w.heap.size w w2) := HB1.out.trans (hb2.mono HB1.out.size)
  have HF2 : Hid (Blk w2 fb 40 #[.int .i64 18, .int .i64 0]) := HFB.out.below hb2
  clear hb2 DB HFB HB1
  unfold zeroA cfA
  go_upto_region 3 with fail
  generalize hW : World.alloc (World.alloc w2 _) _ = W
  obtain ⟨xf, hxf⟩ : ∃ x, x = w2.heap.size + 1 := ⟨_, rfl⟩
  have hbW : Below w2.heap.size w2 W := by rw [← hW]; exact ((Below.refl _ _).alloc (Nat.le_refl _) _).alloc (by simp) _
  have HXF : Hid (Blk W xf 40 #[.int .i64 18, .int .i64 0]) := by
    rw [← hW, hxf]
    have h := Blk.new (w2.alloc (.cells zeroA 32)) 40 #[.int .i64 18, .int .i64 0]
    rw [show (w2.alloc (.cells zeroA 32)).heap.size = w2.heap.size + 1 by simp] at h
    exact h
  rw [← hxf]
  have HBW : Hid (Below w.heap.size w W) := HB2.out.trans (hbW.mono HB2.out.size)
  have HFW : Hid (Blk W fb 40 #[.int .i64 18, .int .i64 0]) := HF2.out.below hbW
  clear hW hxf hbW HF2 HB2
  have c0 : W.cell? ⟨xf, 0, none⟩ = some (.int .i64 18) := HXF.out.cell rfl
  have c1 : W.cell? ⟨xf, 1, none⟩ = some (.int .i64 0) := HXF.out.cell rfl
  have FA := hidden (faulty_any (.iface 61 (.pointer (some ⟨fb, 0, none⟩))) 18 0 W (.inr ⟨fb, rfl, ⟨HFW.out.lt, HFW.out.cell rfl, HFW.out.cell rfl⟩⟩) (HV.out.to HBW.out hv1) (Nat.le_trans hv1 HBW.out.size))
  go_wp2_with fail
  go_at_call 9
  refine FA.out.mono ?_
  rintro e w3 ⟨rfl, hb3⟩
  have d0 : w3.cell? ⟨xf, 0, none⟩ = some (.int .i64 18) := (HXF.out.below hb3).cell rfl
  have HB3 : Hid (Below w.heap.size w w3) := HBW.out.trans (hb3.mono HBW.out.size)
  clear hb3 FA c0 c1
  go_wp2
  go_ret
  exact ⟨rfl, HB3.out⟩

set_option maxRecDepth 100000 in
set_option maxHeartbeats 8000000 in
theorem ran_good (B : Nat) (w : World) (hBw : B ≤ w.heap.size) (a : Option Addr) (c : Nat) (bs : List Nat) (R : RowAt B w a 1 (bs.map byteC)) (hl : bs.length < 281474976710656) (hby : ∀ x, x ∈ bs → x < 256) (hc : bs.length ≤ c) (hv : Vars w) (hv1 : 1 ≤ w.heap.size) (hg : gOk bs = true) (ta : Option Addr) (tc : Nat) (trs : List TR) (ht : TrAt B w ta trs) (hsh : ∀ t, t ∈ trs → t.l.length < 281474976710656) :
    Calls Tryd.prog 4 #[.slice a bs.length c, .slice ta trs.length tc] w fun e w' => e = .returned (.bool true) ∧ Below w.heap.size w w' := by
  have RB := hidden (run_good B w hBw a c bs R hl hby hc hg ta tc trs ht hsh)
  have DB : Hid (∀ w', Below w.heap.size w w' → Calls Tryd.prog 8 #[.slice a bs.length c] w' fun e w'' => GoodD w' (bitL bs) e w'') := fun w' hw' => (decode_any B w' (Nat.le_trans hBw hw'.size) a c bs (R.to (hw'.mono hBw)) hl hby hc).mono (fun e w'' h => h.1 hg)
  have HV := hidden hv
  have HG := hidden hg
  have HTR := hidden ht
  have hlen := ht.len
  clear R hby hg hv ht hsh
  go_enter Tryd.func4, Tryd.ntmps4
  go_wp2_with fail
  go_at_call 7
  refine RB.out.mono ?_
  rintro e w1 ⟨N1, va, ra, rfl, hs1, hoa, hla, hba, hb1⟩
  obtain ⟨aa, ca, hva, hra, hna⟩ := rows_of hoa hba
  subst hva
  have HRA := hidden hra
  have HLA := hidden hla
  have HS1 := hidden hs1
  have HB1 := hidden hb1
  clear hb1 RB hs1 hoa hla hba hra
  go_wp2_with fail
  go_at_call 8
  refine (DB.out _ HB1.out).mono ?_
  rintro e w2 ⟨S, N, rfl, hs2, hcn, hb2⟩
  have HB2 : Hid (Below w.heap.size w w2) := HB1.out.trans (hb2.mono HB1.out.size)
  have HR2 : Hid (RowsAt w2 aa ra) := HRA.out.to hb2
  have HS2 := hidden hs2
  have HCN := hidden hcn
  clear hb2 DB HB1 HRA hs2 hcn
  unfold CnS.cells
  go_upto_region 3 with fail
  generalize hW : World.alloc (World.alloc w2 _) _ = W
  obtain ⟨xc, hxc⟩ : ∃ x, x = w2.heap.size := ⟨_, rfl⟩
  obtain ⟨xf, hxf⟩ : ∃ x, x = w2.heap.size + 1 := ⟨_, rfl⟩
  have hbW : Below w2.heap.size w2 W := by rw [← hW]; exact ((Below.refl _ _).alloc (Nat.le_refl _) _).alloc (by simp) _
  have HXC : Hid (BoxAt W xc S N) := by
    rw [← hW, hxc]
    exact (BoxAt.new w2 S N).to (by simp) ((Below.refl _ _).alloc (Nat.le_refl _) _)
  have HXF : Hid (Blk W xf 40 #[.int .i64 0, .int .i64 0]) := by
    rw [← hW, hxf]
    have h := Blk.new (w2.alloc (.cells (S.cells N) 32)) 40 #[.int .i64 0, .int .i64 0]
    rw [show (w2.alloc (.cells (S.cells N) 32)).heap.size = w2.heap.size + 1 by simp] at h
    exact h
  rw [← hxf, ← hxc]
  have HBW : Hid (Below w.heap.size w W) := HB2.out.trans (hbW.mono HB2.out.size)
  have HRW : Hid (RowsAt W aa ra) := HR2.out.to hbW
  have HCW : Hid (CnAt W.heap.size W S N) := (HCN.out.to hbW).mono hbW.size
  clear hW hxf hxc hbW HR2 HB2 HCN
  have c0 : W.cell? ⟨xf, 0, none⟩ = some (.int .i64 0) := HXF.out.cell rfl
  have c1 : W.cell? ⟨xf, 1, none⟩ = some (.int .i64 0) := HXF.out.cell rfl
  have FA := hidden (faulty_any .nilIface 0 0 W (.inl ⟨rfl, rfl, rfl⟩) (HV.out.to HBW.out hv1) (Nat.le_trans hv1 HBW.out.size))
  go_wp2_with fail
  go_at_call 9
  refine FA.out.mono ?_
  rintro e w3 ⟨rfl, hb3⟩
  have d0 : w3.cell? ⟨xf, 0, none⟩ = some (.int .i64 0) := (HXF.out.below hb3).cell rfl
  have HB3 : Hid (Below w.heap.size w w3) := HBW.out.trans (hb3.mono HBW.out.size)
  have HX3 : Hid (BoxAt w3 xc S N) := HXC.out.to HXC.out.lt hb3
  have HR3 : Hid (RowsAt w3 aa ra) := HRW.out.to hb3
  have HC3 : Hid (CnAt w3.heap.size w3 S N) := (HCW.out.to hb3).mono hb3.size
  clear hb3 FA c0 c1 HXF HXC HRW HCW HBW
  have q0 := HX3.out.c0
  have q1 := HX3.out.c1
  have q2 := HX3.out.c2
  have q3 := HX3.out.c3
  have q4 := HX3.out.c4
  have q5 := HX3.out.c5
  have q6 := HX3.out.c6
  have q7 := HX3.out.c7
  have CR := hidden (configRun_doc w3.heap.size w3 S N HC3.out (Nat.le_refl _) _ _ _ (gOk_fit HG.out HS2.out) (spec_bits HS2.out) (spec_cols HS2.out (gOk_shape HG.out)) ta tc trs ((HTR.out.to (HB3.out.mono hBw)).mono (Nat.le_trans hBw HB3.out.size)))
  unfold CnS.cells at CR
  go_wp2_with fail
  go_at_call 11
  refine CR.out.mono ?_
  rintro e w4 ⟨vb, rb, rfl, hob, hlb, hbb, hb4⟩
  obtain ⟨ab, cb, hvb, hrb, hnb⟩ := rows_of hob hbb
  subst hvb
  have HB4 : Hid (Below w.heap.size w w4) := HB3.out.trans (hb4.mono HB3.out.size)
  have SR : Hid (Calls Tryd.prog 10 #[.slice aa trs.length ca, .slice ab trs.length cb] w4 fun e w' => e = .returned (.bool true) ∧ ∃ q, w' = w4.drewN q) :=
    sameRows_any w4 aa ab ca cb ra rb trs.length hna hnb (by simp only [big]; omega) (HR3.out.to hb4) hrb (by
      show ra.map RD.l = rb.map RD.l
      rw [HLA.out, hlb, HS1.out.regs, HS2.out.regs]
      exact runC_same HS1.out HS2.out _ _) (fun r hr => by
      have h1 : r.l ∈ ra.map RD.l := List.mem_map.2 ⟨r, hr, rfl⟩
      rw [HLA.out] at h1
      have h2 := runC_each N1 _ _ _ h1
      have h3 := (gOk_fit HG.out HS1.out).ol
      simp only [big]; omega)
  clear hb4 q0 q1 q2 q3 q4 q5 q6 q7 CR HX3 hob hlb hbb hrb HR3 HLA hna hnb
  go_wp2_with fail
  go_at_call 10
  refine SR.out.mono ?_
  rintro e w5 ⟨rfl, q, hw5⟩
  have HB5 : Hid (Below w.heap.size w w5) := by rw [hw5]; exact Below.drewN HB4.out _
  clear hw5 SR
  go_wp2
  go_ret
  exact ⟨rfl, HB5.out⟩

theorem ran_any (B : Nat) (w : World) (hBw : B ≤ w.heap.size) (a : Option Addr) (c : Nat) (bs : List Nat) (R : RowAt B w a 1 (bs.map byteC)) (hl : bs.length < 281474976710656) (hby : ∀ x, x ∈ bs → x < 256) (hc : bs.length ≤ c) (hv : Vars w) (hv1 : 1 ≤ w.heap.size) (ta : Option Addr) (tc : Nat) (trs : List TR) (ht : TrAt B w ta trs) (hsh : ∀ t, t ∈ trs → t.l.length < 281474976710656) :
    Calls Tryd.prog 4 #[.slice a bs.length c, .slice ta trs.length tc] w fun e w' => e = .returned (.bool true) ∧ Below w.heap.size w w' := by
  cases hg : gOk bs
  · exact ran_bad B w hBw a c bs R hl hby hc hv hv1 hg ta trs.length tc
  · exact ran_good B w hBw a c bs R hl hby hc hv hv1 hg ta tc trs ht hsh

set_option maxRecDepth 100000 in
set_option maxHeartbeats 8000000 in
theorem law_fabric (B : Nat) (w : World) (hBw : B ≤ w.heap.size) (a : Option Addr) (c : Nat) (bs : List Nat) (R : RowAt B w a 1 (bs.map byteC)) (hl : bs.length < 281474976710656) (hby : ∀ x, x ∈ bs → x < 256) (hc : bs.length ≤ c) (hv : Vars w) (hv1 : 1 ≤ w.heap.size) (ta : Option Addr) (tc : Nat) (trs : List TR) (ht : TrAt B w ta trs) (hsh : ∀ t, t ∈ trs → t.l.length < 281474976710656) :
    Calls Tryd.prog 3 #[.slice a bs.length c, .slice ta trs.length tc] w fun e w' => e = .returned (.bool true) ∧ Below w.heap.size w w' := by
  have R2 : Hid (∀ w', Below w.heap.size w w' → Calls Tryd.prog 4 #[.slice a bs.length c, .slice ta trs.length tc] w' fun e w'' => e = .returned (.bool true) ∧ Below w'.heap.size w' w'') := fun w' hw' =>
    ran_any B w' (Nat.le_trans hBw hw'.size) a c bs (R.to (hw'.mono hBw)) hl hby hc (hv.to hw' hv1) (Nat.le_trans hv1 hw'.size) ta tc trs (ht.to (hw'.mono hBw)) hsh
  have HV := hidden hv
  clear R hby hv ht hsh
  go_enter Tryd.func3, Tryd.ntmps3
  go_wp2_with fail
  go_at_call 6
  refine (plain_any w).mono ?_
  rintro e w1 ⟨S1, b1, rfl, hn1, hb1⟩
  have HB1 := hidden hb1
  have EN := hidden (encode_doc w1.heap.size w1 (Nat.le_refl _) S1 _ hn1 plainB (plain_spec b1) plain_shape)
  clear hn1 hb1
  go_wp2_with fail
  go_at_call 5
  refine EN.out.mono ?_
  rintro e w2 ⟨X, v, rfl, hex, how, hb2⟩
  have HB2 : Hid (Below w.heap.size w w2) := HB1.out.trans (hb2.mono HB1.out.size)
  obtain ⟨xa, xc, hxv, hxr⟩ := own_row (f := byteC) (xs := X ++ sumB (crcV X)) (by rw [flat_one byteC byV (fun _ => rfl)]; exact how) (by rw [List.length_append]; rfl) (fun _ => rfl)
  subst hxv
  have hxc : X.length + 4 ≤ xc := by
    rcases how.2 with ⟨h0, h1⟩ | ⟨g, cap, cur, h0, _, _, h3, _⟩
    · omega
    · have : cap = xc := by cases h0; rfl
      omega
  have hxb : ∀ x, x ∈ X ++ sumB (crcV X) → x < 256 := by
    intro x hx
    rcases List.mem_append.1 hx with hx | hx
    · exact hex.byte x hx
    · simp [sumB] at hx; omega
  have hxl : (X ++ sumB (crcV X)).length = X.length + 4 := by rw [List.length_append]; rfl
  have hXl : X.length ≤ 1000 := by
    have h1 := hex.len
    have h2 : endPS (numN plainB) = 109 := by kernel_rfl
    rw [h2] at h1
    omega
  have HXR := hidden hxr
  have HXB := hidden hxb
  have HXL := hidden hxl
  clear EN hex how hb2 hxr hxb hxl HB1
  go_wp2_with fail
  generalize hW : World.alloc (World.alloc (World.alloc w2 _) _) _ = W
  obtain ⟨t0, e0⟩ : ∃ x, x = w2.heap.size := ⟨_, rfl⟩
  obtain ⟨t1, e1⟩ : ∃ x, x = w2.heap.size + 1 := ⟨_, rfl⟩
  obtain ⟨t2, e2⟩ : ∃ x, x = w2.heap.size + 1 + 1 := ⟨_, rfl⟩
  have hbW : Below w2.heap.size w2 W := by rw [← hW]; exact (((Below.refl _ _).alloc (Nat.le_refl _) _).alloc (by simp) _).alloc (by simp; omega) _
  have K0 : Hid (Blk W t0 4 #[.bool true]) := by
    rw [← hW, e0]
    exact ((Blk.new w2 4 #[.bool true]).below ((Below.refl _ _).alloc (Nat.le_refl _) _)).below ((Below.refl _ _).alloc (Nat.le_refl _) _)
  have K1 : Hid (Blk W t1 4 #[.bool false]) := by
    rw [← hW, e1]
    have h := Blk.new (w2.alloc (.cells #[.bool true] 4)) 4 #[.bool false]
    rw [show (w2.alloc (.cells #[.bool true] 4)).heap.size = w2.heap.size + 1 by simp] at h
    exact h.below ((Below.refl _ _).alloc (Nat.le_refl _) _)
  have K2 : Hid (Blk W t2 34 #[.slice (some ⟨t0, 0, none⟩) 1 1, .slice (some ⟨t1, 0, none⟩) 1 1]) := by
    rw [← hW, e2, e0, e1]
    have h := Blk.new ((w2.alloc (.cells #[.bool true] 4)).alloc (.cells #[.bool false] 4)) 34 #[.slice (some ⟨w2.heap.size, 0, none⟩) 1 1, .slice (some ⟨w2.heap.size + 1, 0, none⟩) 1 1]
    rw [show ((w2.alloc (.cells #[.bool true] 4)).alloc (.cells #[.bool false] 4)).heap.size = w2.heap.size + 1 + 1 by simp] at h
    exact h
  have HBW : Hid (Below w.heap.size w W) := HB2.out.trans (hbW.mono HB2.out.size)
  have HXW : Hid (RowAt W.heap.size W xa 1 ((X ++ sumB (crcV X)).map byteC)) := (HXR.out.to hbW).mono hbW.size
  rw [← e2]
  have HTT : Hid (TrAt W.heap.size W (some ⟨t2, 0, none⟩) [⟨some ⟨t0, 0, none⟩, 1, [true]⟩, ⟨some ⟨t1, 0, none⟩, 1, [false]⟩]) := by
    have g : ∀ {t b : Nat} {arr : Array Value} {els : List (List Value)}, Blk W b t arr → els.flatten = arr.toList → ∀ (m : Nat) (v : Value), els.flatten[m]? = some v → W.cell? ⟨b, m, none⟩ = some v := fun hk he m v hv => hk.cell (by rw [he] at hv; simpa using hv)
    refine ⟨rowAt_flat K2.out.lt (by intro l hl; simp [TR.cells] at hl; rcases hl with rfl | rfl <;> rfl) (g K2.out rfl), fun t ht => ?_, by simp⟩
    simp only [List.mem_cons, List.not_mem_nil, or_false] at ht
    rcases ht with rfl | rfl
    · exact rowAt_flat K0.out.lt (by intro l hl; simp [boolC] at hl; rw [hl]; rfl) (g K0.out rfl)
    · exact rowAt_flat K1.out.lt (by intro l hl; simp [boolC] at hl; rw [hl]; rfl) (g K1.out rfl)
  have R1 : Hid (Calls Tryd.prog 4 #[.slice xa (X.length + 4) xc, .slice (some ⟨t2, 0, none⟩) 2 2] W fun e w' => e = .returned (.bool true) ∧ Below W.heap.size W w') := by
    have h := ran_any W.heap.size W (Nat.le_refl _) xa xc (X ++ sumB (crcV X)) HXW.out (by rw [HXL.out]; omega) HXB.out (by rw [HXL.out]; exact hxc) (HV.out.to HBW.out hv1) (Nat.le_trans hv1 HBW.out.size) (some ⟨t2, 0, none⟩) 2 _ HTT.out (by intro t ht; simp only [List.mem_cons, List.not_mem_nil, or_false] at ht; rcases ht with rfl | rfl <;> simp)
    rw [HXL.out] at h
    exact h
  clear hW e0 e1 e2 hbW K0 K1 K2 HXW HTT HXR HXB HXL
  go_at_call 4
  refine R1.out.mono ?_
  rintro e w3 ⟨rfl, hb3⟩
  have HB3 : Hid (Below w.heap.size w w3) := HBW.out.trans (hb3.mono HBW.out.size)
  clear hb3 R1
  go_wp2_with fail
  go_at_call 4
  refine (R2.out _ HB3.out).mono ?_
  rintro e w4 ⟨rfl, hb4⟩
  have HB4 : Hid (Below w.heap.size w w4) := HB3.out.trans (hb4.mono HB3.out.size)
  clear hb4 R2
  go_wp2
  go_ret
  exact ⟨rfl, HB4.out⟩

end Go.Proofs.YtjbnejjjbdalaaaDoor
