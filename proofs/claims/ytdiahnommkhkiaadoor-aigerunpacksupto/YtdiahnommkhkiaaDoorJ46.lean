import Derived.Test.YtdiahnommkhkiaaDoorJ45
import Derived.Test.YtdiahnommkhkiaaDoorJ33
import Derived.Lib.ConvBytes
namespace Go.Proofs.YtdiahnommkhkiaaDoor
open Go.RowKit

theorem info_u80 : (Tryd.prog.info? 5).map (fun i => (i.zero, i.size, i.bytes)) = some (some (.int .u8 0), 1, 1) := by kernel_rfl
theorem info_u8 : ∃ i, Tryd.prog.info? 5 = some i ∧ i.zero = some (.int .u8 0) ∧ i.size = 1 ∧ i.bytes = 1 := by
  have h := info_u80
  cases hi : Tryd.prog.info? 5 with
  | none => rw [hi] at h; cases h
  | some i => rw [hi] at h; simp at h; exact ⟨i, rfl, h.1, h.2.1, h.2.2⟩
/-- bytes as cells -/
abbrev bC8 (l : List UInt8) : List Value := Lib.byteCells l
theorem bC8_app (a b : List UInt8) : bC8 a ++ bC8 b = bC8 (a ++ b) := by simp [Lib.byteCells]
theorem bC8_len (l : List UInt8) : (bC8 l).length = l.length := by simp [Lib.byteCells]
/-- a text that one owns -/
def Txt (B : Nat) (w : World) (v : Value) (t : List UInt8) : Prop := OwnM w B 5 v t.length (bC8 t)
theorem Txt.to {B : Nat} {w w' : World} {v : Value} {t : List UInt8} (h : Txt B w v t) (hb : Below w.heap.size w w') : Txt B w' v t := OwnM.to h hb
/-- numbers, a blank between two -/
def joinT : List Int → List UInt8
  | [] => []
  | [x] => decI x
  | x :: y :: r => decI x ++ [32] ++ joinT (y :: r)
def lineT (l : List Int) : List UInt8 := joinT l ++ [10]
theorem Txt.ge {B : Nat} {w : World} {v : Value} {t : List UInt8} (h : Txt B w v t) : ∀ k, v.ownBlock = some k → B ≤ k := fun k hk => (OwnM.lt h k hk).1
theorem Step.cell {w w' : World} {v v' : Value} (h : Step w v w' v') {p : Addr} (hp : p.block < w.heap.size) (hv : v.ownBlock ≠ some p.block) : w'.cell? p = w.cell? p := h.1.cell_far p hp (fun e => hv e.symm)
/-- one byte is put behind -/
theorem txt_one {B : Nat} {w' : World} {v' : Value} {t : List UInt8} {c : UInt8} (h : OwnM w' B 5 v' (t.length + 1) (bC8 t ++ [.int .u8 (c.toNat : Int)])) : Txt B w' v' (t ++ [c]) := by
  unfold Txt
  rw [← bC8_app, List.length_append]; exact h
/-- the numbers of a latch's line -/
def latN (l own : Int) (d : LatD) : List Int := (if l = 0 then [own] else []) ++ [d.next] ++ (if d.init then [1] else [])
def pL (l : Int) (G : GrD) (ni i : Nat) : List UInt8 := match G.lats[i]? with | some d => lineT (latN l (2 * (1 + (ni : Int) + (i : Int))) d) | none => []
def pA (gT : Int → AndD → List UInt8) (G : GrD) (first i : Nat) : List UInt8 := match G.ands[i]? with | some d => gT (2 * ((first : Int) + (i : Int))) d | none => []
theorem pA_line {gT : Int → AndD → List UInt8} {G : GrD} {first i : Nat} {d : AndD} (h : G.ands[i]? = some d) : pA gT G first i = gT (2 * ((first : Int) + (i : Int))) d := by unfold pA; rw [h]
theorem decI_one : decI 1 = [49] := by show decTxt 1 = _; rw [decTxt_small 1 (by decide)]; rfl
/-- a number in bytes of seven bits -/
def sevenT (n : Nat) : List UInt8 := if n ≤ 127 then [UInt8.ofNat n] else UInt8.ofNat (n % 128 + 128) :: sevenT (n / 128)
termination_by n
decreasing_by omega
theorem sevenT_small (n : Nat) (h : n ≤ 127) : sevenT n = [UInt8.ofNat n] := by rw [sevenT, if_pos h]
theorem sevenT_big (n : Nat) (h : 127 < n) : sevenT n = UInt8.ofNat (n % 128 + 128) :: sevenT (n / 128) := by rw [sevenT, if_neg (by omega)]
theorem sevenT_len (d n : Nat) (h : n < 128 ^ (d + 1)) : (sevenT n).length ≤ d + 1 := by
  induction d generalizing n with
  | zero => rw [sevenT_small n (by omega)]; simp
  | succ d ih =>
    by_cases h9 : n ≤ 127
    · rw [sevenT_small n h9]; simp
    · rw [sevenT_big n (by omega)]
      have := ih (n / 128) (by rw [Nat.div_lt_iff_lt_mul (by decide)]; rw [Nat.pow_succ] at h; exact h)
      simp; omega
theorem seven_len (n : Nat) (h : n < 4294967296) : (sevenT n).length ≤ 5 := sevenT_len 4 n (by omega)
theorem seven_pos (n : Nat) : 0 < (sevenT n).length := by
  by_cases h : n ≤ 127
  · rw [sevenT_small n h]; simp
  · rw [sevenT_big n (by omega)]; simp
theorem byte_nat (m : Nat) (h : m < 256) : ((UInt8.ofNat m).toNat : Int) = (m : Int) := by
  rw [UInt8.toNat_ofNat']
  omega
set_option maxRecDepth 100000 in
set_option maxHeartbeats 8000000 in
theorem seven_any (w : World) (n : Nat) (hn : n < 4294967296) :
    Calls Tryd.prog 20 #[.int .i64 (n : Int)] w fun e w' => ∃ v', e = .returned v' ∧ Txt w.heap.size w' v' (sevenT n) ∧ Below w.heap.size w w' := by
  obtain ⟨i0, hi, hz, hs, hb⟩ := info_u8
  have HI := hidden hi
  have HZ := hidden hz
  have HS := hidden hs
  have HBY := hidden hb
  clear hi hz hs hb
  go_enter Tryd.func20, Tryd.ntmps20
  go_wp2_with fail
  go_loopw [0, 3] (fun i' b' w' => ∃ (k : Nat) (l : List UInt8), k ≤ n ∧ i' = .int .i64 (k : Int) ∧ Hid (sevenT n = l ++ sevenT k) ∧ Hid (Txt w.heap.size w' b' l) ∧ Hid (Below w.heap.size w w')) (fun i' _ _ => (intOf i').toNat)
  case atStart => exact ⟨n, [], Nat.le_refl _, rfl, by simp [Hid], ⟨rfl, .inl ⟨rfl, rfl⟩⟩, Below.refl _ _⟩
  case round =>
    obtain ⟨k, l, hk, rfl, HL, HT, HSt⟩ := hrel
    have hsz := HSt.out.size
    have hll : l.length ≤ 10 := by
      have h1 := seven_len n hn
      rw [HL.out, List.length_append] at h1
      omega
    by_cases h9 : 128 ≤ k
    · obtain ⟨c, hc⟩ : ∃ c : UInt8, c = UInt8.ofNat (k % 128 + 128) := ⟨_, rfl⟩
      have hcn : (c.toNat : Int) = ((k % 128 + 128 : Nat) : Int) := by rw [hc]; exact byte_nat _ (by omega)
      have q1 : Int.tmod (k : Int) 128 = ((k % 128 : Nat) : Int) := by rw [Int.tmod_eq_emod_of_nonneg (by omega)]; omega
      have q2 : Int.tdiv (k : Int) 128 = ((k / 128 : Nat) : Int) := by rw [Int.tdiv_eq_ediv_of_nonneg (by omega)]; omega
      have HNX : Hid (sevenT n = (l ++ [c]) ++ sevenT (k / 128)) := by
        show _ = _
        rw [HL.out, sevenT_big k (by omega), hc]; simp
      have hgeI : (127 : Int) < (k : Int) := by omega
      have hk2 : k / 128 < k := by omega
      have hk3 : k / 128 ≤ n := by omega
      have e0 : IntKind.i64.wrap ((k % 128 : Nat) : Int) = ((k % 128 : Nat) : Int) := wrapI _ (by omega) (by omega)
      have e1 : IntKind.i64.wrap (((k % 128 : Nat) : Int) + 128) = ((k % 128 : Nat) : Int) + 128 := wrapI _ (by omega) (by omega)
      have E1 : Hid (((k % 128 : Nat) : Int) + 128 = (c.toNat : Int)) := by show _ = _; omega
      have e2 : IntKind.u8.wrap (((k % 128 : Nat) : Int) + 128) = ((k % 128 : Nat) : Int) + 128 := by rw [IntKind.wrap_u8]; omega
      have e3 : IntKind.i64.wrap ((k / 128 : Nat) : Int) = ((k / 128 : Nat) : Int) := wrapI _ (by omega) (by omega)
      generalize k % 128 = a at *
      generalize k / 128 = kd at *
      have HOA : Hid (OwnM (wr.alloc (.cells #[.int .u8 ((a : Int) + 128)] 5)) w.heap.size 5 u3 l.length (bC8 l)) := OwnM.alloc HT.out _
      have hb1 : l.length + 1 ≤ 1000000000000 := by omega
      have hB1 : w.heap.size ≤ (wr.alloc (.cells #[.int .u8 ((a : Int) + 128)] 5)).heap.size := by simp; omega
      clear HL hc hcn
      have tok : True := trivial
      go_wp2_with (have _t := tok; at_builtin; (refine wpList_appendM _ rfl (.tmp 6) (.tmp 11) 30 rfl w.heap.size 5 i0 Tryd.underlying30 HI.out HZ.out HS.out HBY.out u3 _ _ rfl HOA.out ⟨wr.heap.size, 0, none⟩ 1 1 [.int .u8 ((a : Int) + 128)] rfl rfl (World.news_of_block (heap_new _ _)) (by simp [Value.oneCell']) hb1 hB1 ?_; intro v4 w4 hown4 hst4; clear tok))
      have HT4 : Hid (Txt w.heap.size w4 v4 (l ++ [c])) := by
        show Txt _ _ _ _
        rw [E1.out] at hown4
        exact txt_one hown4
      have HS4 : Hid (Below w.heap.size w w4) := (HSt.out.alloc hsz _).trans (hst4.below (by simp; omega) (fun k hk => (OwnM.lt HOA.out k hk).1))
      clear hown4 hst4 HT HSt HOA hb1 hB1
      go_roundw
      case measure => simp [intOf]; omega
      case rel => exact ⟨kd, l ++ [c], hk3, rfl, HNX.out, HT4.out, HS4.out⟩
    · obtain ⟨c, hc⟩ : ∃ c : UInt8, c = UInt8.ofNat k := ⟨_, rfl⟩
      have hcn : (c.toNat : Int) = (k : Int) := by rw [hc]; exact byte_nat _ (by omega)
      have hge : ¬ ((127 : Int) < (k : Int)) := by omega
      have e2 : IntKind.u8.wrap (k : Int) = (c.toNat : Int) := by rw [IntKind.wrap_u8]; omega
      have HNX : Hid (sevenT n = l ++ [c]) := by
        show _ = _
        rw [HL.out, sevenT_small k (by omega), hc]
      have HOA : Hid (OwnM (wr.alloc (.cells #[.int .u8 (c.toNat : Int)] 5)) w.heap.size 5 u3 l.length (bC8 l)) := OwnM.alloc HT.out _
      have hb1 : l.length + 1 ≤ 1000000000000 := by omega
      have hB1 : w.heap.size ≤ (wr.alloc (.cells #[.int .u8 (c.toNat : Int)] 5)).heap.size := by simp; omega
      clear HL hc hcn
      have tok : True := trivial
      go_wp2_with (have _t := tok; at_builtin; (refine wpList_appendM _ rfl (.tmp 15) (.tmp 18) 30 rfl w.heap.size 5 i0 Tryd.underlying30 HI.out HZ.out HS.out HBY.out u3 _ _ rfl HOA.out ⟨wr.heap.size, 0, none⟩ 1 1 [.int .u8 (c.toNat : Int)] rfl rfl (World.news_of_block (heap_new _ _)) (by simp [Value.oneCell']) hb1 hB1 ?_; intro v4 w4 hown4 hst4; clear tok))
      go_ret
      refine ⟨v4, rfl, ?_, (HSt.out.alloc hsz _).trans (hst4.below (by simp; omega) (fun k hk => (OwnM.lt HOA.out k hk).1))⟩
      rw [HNX.out]; exact txt_one hown4
theorem most_any (x y : Int) (w : World) : Calls Tryd.prog 19 #[.int .i64 x, .int .i64 y] w fun e w' => e = .returned (.int .i64 (max x y)) ∧ w' = w := by
  by_cases h : x < y
  · go_enter Tryd.func19, Tryd.ntmps19
    go_wp2
    go_ret
    exact ⟨ret_int (by omega), rfl⟩
  · go_enter Tryd.func19, Tryd.ntmps19
    go_wp2
    go_ret
    exact ⟨ret_int (by omega), rfl⟩
/-- a gate's two numbers -/
def pkT (own : Int) (d : AndD) : List UInt8 := sevenT (own - max d.x d.y).toNat ++ sevenT (max d.x d.y - min d.x d.y).toNat
def fF (G : GrD) (i : Nat) : List UInt8 := match G.lats[i]? with | some d => firstT d | none => []
theorem pL_bytes (G : GrD) (ni i : Nat) : pL 1 G ni i = fF G i := by
  unfold pL fF
  cases G.lats[i]? with
  | none => rfl
  | some d =>
    obtain ⟨nx, ini⟩ := d
    cases ini
    · simp [lineT, latN, joinT, firstT]
    · simp [lineT, latN, joinT, firstT, decI_one]
theorem lensP_bytes {G : GrD} {ni n : Nat} (hF : FineG G ni n) : (∀ i, i < G.lats.length → (pL 1 G ni i).length ≤ 60) ∧ (∀ i, i < G.ands.length → (pA pkT G (firstN G) i).length ≤ 60) := by
  have h1 := hF.first
  have h2 := hF.all
  have h3 := hF.le
  refine ⟨fun i hi => ?_, fun i hi => ?_⟩
  · rw [pL_bytes]
    unfold fF
    obtain ⟨x, hx⟩ := getElem_lt hi
    rw [hx]
    have hin := hF.lats x (List.mem_of_getElem? hx)
    have := firstT_len (l := x) (by omega)
    simp only
    omega
  · unfold pA
    obtain ⟨x, hx⟩ := getElem_lt hi
    rw [hx]
    have hin := hF.ands i x hx
    simp only
    unfold pkT
    have a1 := seven_len (2 * ((firstN G : Int) + (i : Int)) - max x.x x.y).toNat (by omega)
    have a2 := seven_len (max x.x x.y - min x.x x.y).toNat (by omega)
    rw [List.length_append]
    omega
/-- a graph's bytes -/
def packT (G : GrD) : List UInt8 := headT [97, 105, 103] G ++ cat (fF G) G.lats.length ++ cat (fO G) G.outs.length ++ cat (pA pkT G (firstN G)) G.ands.length
set_option maxRecDepth 100000 in
set_option maxHeartbeats 4000000 in
theorem pkLats (wc : World) (t0 : List UInt8) (ht0 : t0.length ≤ 100000 + 60 * 60000 * 3) (gx : Nat) (hgx : gx < wc.heap.size) (G : GrD) (B n : Nat) (a : Option Addr) (c : Nat) (q0 : wc.cell? ⟨gx, 1, none⟩ = some (.slice a G.lats.length c)) (HR : Hid (RowAt B wc a 2 (G.lats.map LatD.cells))) (hBw : B ≤ wc.heap.size) (hn : n ≤ 60000) (hin : ∀ z, z ∈ G.lats → 0 ≤ z.next ∧ z.next < 2 * (n : Int)) (hlo : G.lats.length ≤ 60000) (HFL : Hid (∀ i, i < G.lats.length → (fF G i).length ≤ 60)) (K' : Act → World → Prop) (Q0 : Exit → Act → World → Prop) (x0 x2 x5 x6 x7 x8 x9 x10 x11 x12 x13 x14 x15 x16 x17 x18 x19 x20 x21 x22 x23 x24 x25 x26 x27 x28 x29 x30 x31 x32 x33 x34 x35 x36 x37 x38 x39 x40 x41 x42 x43 x44 x45 x46 x47 x48 x49 x50 x51 x52 x53 x54 x55 x56 x57 x58 x59 x60 x61 x62 x63 x64 x65 x66 x67 x68 x69 x70 x71 x72 x73 x74 x75 x76 x77 x78 x79 x80 x81 x82 x83 x84 x85 x86 x87 x88 x89 x90 x91 x92 x93 x94 x95 x96 x97 x98 x99 x100 x101 x102 x103 : Value)
    (HK : Hid (∀ (w' : World) (s4 s13 s14 s15 s16 s17 s18 s19 s20 s21 s22 s23 s24 s25 s26 s27 : Value), Below wc.heap.size wc w' → K' ⟨#[x0, .pointer (some ⟨gx, 0, none⟩), x2, .string (bs (t0 ++ cat (fF G) G.lats.length)), s4, x5, x6, x7, x8, x9, x10, x11, x12, s13, s14, s15, s16, s17, s18, s19, s20, s21, s22, s23, s24, s25, s26, s27, x28, x29, x30, x31, x32, x33, x34, x35, x36, x37, x38, x39, x40, x41, x42, x43, x44, x45, x46, x47, x48, x49, x50, x51, x52, x53, x54, x55, x56, x57, x58, x59, x60, x61, x62, x63, x64, x65, x66, x67, x68, x69, x70, x71, x72, x73, x74, x75, x76, x77, x78, x79, x80, x81, x82, x83, x84, x85, x86, x87, x88, x89, x90, x91, x92, x93, x94, x95, x96, x97, x98, x99, x100, x101, x102, x103], []⟩ w')) :
    Code.wp Tryd.prog ((Tryd.f9.body.bind (blockAt 0)).getD .skip) (Exit.then K' Q0) ⟨#[x0, .pointer (some ⟨gx, 0, none⟩), x2, .string (bs t0), .int .i64 0, x5, x6, x7, x8, x9, x10, x11, x12, x13, x14, x15, x16, x17, x18, x19, x20, x21, x22, x23, x24, x25, x26, x27, x28, x29, x30, x31, x32, x33, x34, x35, x36, x37, x38, x39, x40, x41, x42, x43, x44, x45, x46, x47, x48, x49, x50, x51, x52, x53, x54, x55, x56, x57, x58, x59, x60, x61, x62, x63, x64, x65, x66, x67, x68, x69, x70, x71, x72, x73, x74, x75, x76, x77, x78, x79, x80, x81, x82, x83, x84, x85, x86, x87, x88, x89, x90, x91, x92, x93, x94, x95, x96, x97, x98, x99, x100, x101, x102, x103], []⟩ wc := by
  conv => arg 2; whnf
  go_wp2_with fail
  go_loopw [3, 4] (fun s' i' w' => ∃ (k : Nat), k ≤ G.lats.length ∧ i' = .int .i64 k ∧ s' = .string (bs (t0 ++ cat (fF G) k)) ∧ Hid (Below wc.heap.size wc w')) (fun _ i' _ => G.lats.length - (intOf i').toNat)
  case atStart => exact ⟨0, Nat.zero_le _, rfl, by rw [cat_zero, List.append_nil], Below.refl _ _⟩
  case round =>
    obtain ⟨k, hk, rfl, rfl, HB⟩ := hrel
    by_cases hlt : k < G.lats.length
    · have hltI : (k : Int) < (G.lats.length : Int) := by omega
      have e3 : IntKind.i64.wrap ((k : Int) + 1) = (k : Int) + 1 := wrapI _ (by omega) (by omega)
      have HNX := hidden (cat_next (fF G) k)
      have hlen : (t0 ++ cat (fF G) k).length ≤ 100000 + 60 * 60000 * 4 := by
        rw [List.length_append]
        have := cat_len (f := fF G) (m := 60) k (fun i hi => HFL.out i (by omega))
        omega
      obtain ⟨x, hx⟩ : ∃ x, G.lats[k]? = some x := getElem_lt hlt
      obtain ⟨rb, ro, ea, hrb, hrc⟩ := HR.out.el hx
      obtain ⟨nx, ini⟩ := x
      have hcell := (HB.out.cell (p := ⟨gx, 1, none⟩) hgx).trans q0
      rw [ea] at hcell
      have c1 : wr.cell? ⟨rb, ro + k * 2, none⟩ = some (.int .i64 nx) := (HB.out.cell (p := ⟨rb, ro + k * 2, none⟩) (by show rb < _; omega)).trans (hrc 0 _ rfl)
      have c2 : wr.cell? ⟨rb, ro + k * 2 + 1, none⟩ = some (.bool ini) := (HB.out.cell (p := ⟨rb, ro + k * 2 + 1, none⟩) (by show rb < _; omega)).trans (hrc 1 _ rfl)
      have hxi := hin _ (List.mem_of_getElem? hx)
      simp only at hxi
      have FT : Hid (∀ w', Calls Tryd.prog 16 #[.agg #[.int .i64 nx, .bool ini]] w' fun e w'' => e = .returned (.string (bs (firstT ⟨nx, ini⟩))) ∧ Below w'.heap.size w' w'') := fun w' => first_any ⟨nx, ini⟩ hxi.1 (by simp only; omega) w'
      have hfl := firstT_len (l := ⟨nx, ini⟩) (by simp only; omega)
      have HFK : Hid (fF G k = firstT ⟨nx, ini⟩) := by show _ = _; unfold fF; rw [hx]
      generalize firstT ⟨nx, ini⟩ = ft at *
      clear hrc ea hx hxi
      generalize hT : t0 ++ cat (fF G) k = t at *
      have HTT := hidden hT
      clear hT
      obtain ⟨z0, H0, L0, A0⟩ := add_to (bs t) (bs ft) t ft rfl rfl (by omega)
      have HZ : Hid (z0 = t ++ fF G k) := by show _ = _; rw [H0.out, HFK.out]
      clear H0 HFK
      go_wp2_with fail
      go_at_call 16
      refine (FT.out _).mono ?_
      rintro e w2 ⟨rfl, hb2⟩
      have HB2 : Hid (Below wc.heap.size wc w2) := HB.out.trans (hb2.mono HB.out.size)
      clear hb2 HB FT hcell c1 c2
      go_wp2
      go_roundw
      case measure => simp [intOf]; omega
      case rel => exact ⟨k + 1, by omega, by simp, by rw [HNX.out, ← List.append_assoc, HTT.out]; exact congrArg (fun x => Value.string (bs x)) HZ.out, HB2.out⟩
    · have hge : ¬ ((k : Int) < (G.lats.length : Int)) := by omega
      have HEN : Hid (t0 ++ cat (fF G) k = t0 ++ cat (fF G) (G.lats.length)) := by show _ = _; rw [show k = G.lats.length by omega]
      have hcell := (HB.out.cell (p := ⟨gx, 1, none⟩) hgx).trans q0
      rw [HEN.out]
      go_wp2
      exact HK.out _ _ _ _ _ _ _ _ _ _ _ _ _ _ _ _ _ HB.out
set_option maxRecDepth 100000 in
set_option maxHeartbeats 4000000 in
theorem pkOuts (wc : World) (t0 : List UInt8) (ht0 : t0.length ≤ 100000 + 60 * 60000 * 3) (gx : Nat) (hgx : gx < wc.heap.size) (G : GrD) (B n : Nat) (a : Option Addr) (c : Nat) (q0 : wc.cell? ⟨gx, 3, none⟩ = some (.slice a G.outs.length c)) (HR : Hid (RowAt B wc a 1 (G.outs.map intC))) (hBw : B ≤ wc.heap.size) (hn : n ≤ 60000) (hin : ∀ z, z ∈ G.outs → 0 ≤ z ∧ z < 2 * (n : Int)) (hlo : G.outs.length ≤ 60000) (HFL : Hid (∀ i, i < G.outs.length → (fO G i).length ≤ 60)) (K' : Act → World → Prop) (Q0 : Exit → Act → World → Prop) (x0 x2 x4 x6 x7 x8 x9 x10 x11 x12 x13 x14 x15 x16 x17 x18 x19 x20 x21 x22 x23 x24 x25 x26 x27 x28 x29 x30 x31 x32 x33 x34 x35 x36 x37 x38 x39 x40 x41 x42 x43 x44 x45 x46 x47 x48 x49 x50 x51 x52 x53 x54 x55 x56 x57 x58 x59 x60 x61 x62 x63 x64 x65 x66 x67 x68 x69 x70 x71 x72 x73 x74 x75 x76 x77 x78 x79 x80 x81 x82 x83 x84 x85 x86 x87 x88 x89 x90 x91 x92 x93 x94 x95 x96 x97 x98 x99 x100 x101 x102 x103 : Value)
    (HK : Hid (∀ (w' : World) (s5 s28 s29 s30 s31 s32 s33 s34 s35 s36 s37 s38 s39 s40 s41 s42 s43 : Value), Below wc.heap.size wc w' → K' ⟨#[x0, .pointer (some ⟨gx, 0, none⟩), x2, .string (bs (t0 ++ cat (fO G) G.outs.length)), x4, s5, x6, x7, x8, x9, x10, x11, x12, x13, x14, x15, x16, x17, x18, x19, x20, x21, x22, x23, x24, x25, x26, x27, s28, s29, s30, s31, s32, s33, s34, s35, s36, s37, s38, s39, s40, s41, s42, s43, x44, x45, x46, x47, x48, x49, x50, x51, x52, x53, x54, x55, x56, x57, x58, x59, x60, x61, x62, x63, x64, x65, x66, x67, x68, x69, x70, x71, x72, x73, x74, x75, x76, x77, x78, x79, x80, x81, x82, x83, x84, x85, x86, x87, x88, x89, x90, x91, x92, x93, x94, x95, x96, x97, x98, x99, x100, x101, x102, x103], []⟩ w')) :
    Code.wp Tryd.prog ((Tryd.f9.body.bind (blockAt 2)).getD .skip) (Exit.then K' Q0) ⟨#[x0, .pointer (some ⟨gx, 0, none⟩), x2, .string (bs t0), x4, .int .i64 0, x6, x7, x8, x9, x10, x11, x12, x13, x14, x15, x16, x17, x18, x19, x20, x21, x22, x23, x24, x25, x26, x27, x28, x29, x30, x31, x32, x33, x34, x35, x36, x37, x38, x39, x40, x41, x42, x43, x44, x45, x46, x47, x48, x49, x50, x51, x52, x53, x54, x55, x56, x57, x58, x59, x60, x61, x62, x63, x64, x65, x66, x67, x68, x69, x70, x71, x72, x73, x74, x75, x76, x77, x78, x79, x80, x81, x82, x83, x84, x85, x86, x87, x88, x89, x90, x91, x92, x93, x94, x95, x96, x97, x98, x99, x100, x101, x102, x103], []⟩ wc := by
  conv => arg 2; whnf
  go_wp2_with fail
  go_loopw [3, 5] (fun s' i' w' => ∃ (k : Nat), k ≤ G.outs.length ∧ i' = .int .i64 k ∧ s' = .string (bs (t0 ++ cat (fO G) k)) ∧ Hid (Below wc.heap.size wc w')) (fun _ i' _ => G.outs.length - (intOf i').toNat)
  case atStart => exact ⟨0, Nat.zero_le _, rfl, by rw [cat_zero, List.append_nil], Below.refl _ _⟩
  case round =>
    obtain ⟨k, hk, rfl, rfl, HB⟩ := hrel
    by_cases hlt : k < G.outs.length
    · have hltI : (k : Int) < (G.outs.length : Int) := by omega
      have e3 : IntKind.i64.wrap ((k : Int) + 1) = (k : Int) + 1 := wrapI _ (by omega) (by omega)
      have HNX := hidden (cat_next (fO G) k)
      have hlen : (t0 ++ cat (fO G) k).length ≤ 100000 + 60 * 60000 * 4 := by
        rw [List.length_append]
        have := cat_len (f := fO G) (m := 60) k (fun i hi => HFL.out i (by omega))
        omega
      obtain ⟨x, hx⟩ : ∃ x, G.outs[k]? = some x := getElem_lt hlt
      obtain ⟨rb, ro, ea, hrb, hrc⟩ := HR.out.intR hx
      have hcell := (HB.out.cell (p := ⟨gx, 3, none⟩) hgx).trans q0
      rw [ea] at hcell
      have c1 := (HB.out.cell (p := ⟨rb, ro + k, none⟩) (by show rb < _; omega)).trans hrc
      have hxi := hin x (List.mem_of_getElem? hx)
      obtain ⟨d0, WH0, D0, l0⟩ := whole_of x hxi.1 (by omega)
      have HFK : Hid (fO G k = decI x ++ [10]) := by show _ = _; unfold fO; rw [hx]
      clear hrc ea hx hxi
      generalize hT : t0 ++ cat (fO G) k = t at *
      have HTT := hidden hT
      clear hT
      obtain ⟨z0, H0, L0, A0⟩ := add_to (bs t) (bs d0) t d0 rfl rfl (by omega)
      obtain ⟨z1, H1, L1, A1⟩ := add_to (bs z0) ⟨#[10]⟩ z0 [10] rfl rfl (by simp only [List.length_cons, List.length_nil]; omega)
      have HZ : Hid (z1 = t ++ fO G k) := by show _ = _; rw [H1.out, H0.out, D0.out, HFK.out]; simp
      clear H0 H1 D0 HFK
      go_wp2_with fail
      go_at_call 15
      refine (WH0.out _).mono ?_
      rintro e w2 ⟨rfl, hb2⟩
      have HB2 : Hid (Below wc.heap.size wc w2) := HB.out.trans (hb2.mono HB.out.size)
      clear hb2 HB WH0 hcell c1
      go_wp2
      go_roundw
      case measure => simp [intOf]; omega
      case rel => exact ⟨k + 1, by omega, by simp, by rw [HNX.out, ← List.append_assoc, HTT.out]; exact congrArg (fun x => Value.string (bs x)) HZ.out, HB2.out⟩
    · have hge : ¬ ((k : Int) < (G.outs.length : Int)) := by omega
      have HEN : Hid (t0 ++ cat (fO G) k = t0 ++ cat (fO G) (G.outs.length)) := by show _ = _; rw [show k = G.outs.length by omega]
      have hcell := (HB.out.cell (p := ⟨gx, 3, none⟩) hgx).trans q0
      rw [HEN.out]
      go_wp2
      exact HK.out _ _ _ _ _ _ _ _ _ _ _ _ _ _ _ _ _ _ HB.out
set_option maxRecDepth 100000 in
set_option maxHeartbeats 16000000 in
theorem pkAnds (wc : World) (B : Nat) (v0 : Value) (t0 : List UInt8) (HT0 : Hid (Txt B wc v0 t0)) (hB : B ≤ wc.heap.size) (ht0 : t0.length ≤ 20000000) (gx : Nat) (hgx : gx < B) (G : GrD) (D n first : Nat) (a : Option Addr) (c : Nat) (q0 : wc.cell? ⟨gx, 2, none⟩ = some (.slice a G.ands.length c)) (HR : Hid (RowAt D wc a 2 (G.ands.map AndD.cells))) (hD : D ≤ B) (hn : n ≤ 60000) (hfn : first + G.ands.length = n) (hin : ∀ (k : Nat) (d : AndD), G.ands[k]? = some d → (0 ≤ d.x ∧ d.x < 2 * ((first + k : Nat) : Int)) ∧ (0 ≤ d.y ∧ d.y < 2 * ((first + k : Nat) : Int))) (HFL : Hid (∀ i, i < G.ands.length → (pA pkT G first i).length ≤ 60)) (K' : Act → World → Prop) (Q0 : Exit → Act → World → Prop) (x0 x2 x3 x4 x5 x9 x10 x11 x12 x13 x14 x15 x16 x17 x18 x19 x20 x21 x22 x23 x24 x25 x26 x27 x28 x29 x30 x31 x32 x33 x34 x35 x36 x37 x38 x39 x40 x41 x42 x43 x44 x45 x46 x47 x48 x49 x50 x51 x52 x53 x54 x55 x56 x57 x58 x59 x60 x61 x62 x63 x64 x65 x66 x67 x68 x69 x70 x71 x72 x73 x74 x75 x76 x77 x78 x79 x80 x81 x82 x83 x84 x85 x86 x87 x88 x89 x90 x91 x92 x93 x94 x95 x96 x97 x98 x99 x100 x101 x102 x103 : Value)
    (HK : Hid (∀ (w' : World) (s6 s8 s9 s10 s53 s54 s55 s56 s57 s58 s59 s60 s61 s62 s63 s64 s65 s66 s67 s68 s69 s70 s71 s72 s73 s74 s75 s76 s77 s78 s79 s80 s81 s82 s83 s84 s85 s86 s87 s88 s89 s90 s91 s92 s93 s94 s95 s96 s97 s98 s99 s100 s101 s102 : Value), Txt B w' s6 (t0 ++ cat (pA pkT G first) G.ands.length) ∧ Step wc v0 w' s6 → K' ⟨#[x0, .pointer (some ⟨gx, 0, none⟩), x2, x3, x4, x5, s6, .int .i64 (first : Int), s8, s9, s10, x11, x12, x13, x14, x15, x16, x17, x18, x19, x20, x21, x22, x23, x24, x25, x26, x27, x28, x29, x30, x31, x32, x33, x34, x35, x36, x37, x38, x39, x40, x41, x42, x43, x44, x45, x46, x47, x48, x49, x50, x51, x52, s53, s54, s55, s56, s57, s58, s59, s60, s61, s62, s63, s64, s65, s66, s67, s68, s69, s70, s71, s72, s73, s74, s75, s76, s77, s78, s79, s80, s81, s82, s83, s84, s85, s86, s87, s88, s89, s90, s91, s92, s93, s94, s95, s96, s97, s98, s99, s100, s101, s102, x103], []⟩ w')) :
    Code.wp Tryd.prog ((Tryd.f9.body.bind (blockAt 4)).getD .skip) (Exit.then K' Q0) ⟨#[x0, .pointer (some ⟨gx, 0, none⟩), x2, x3, x4, x5, v0, .int .i64 (first : Int), .int .i64 0, x9, x10, x11, x12, x13, x14, x15, x16, x17, x18, x19, x20, x21, x22, x23, x24, x25, x26, x27, x28, x29, x30, x31, x32, x33, x34, x35, x36, x37, x38, x39, x40, x41, x42, x43, x44, x45, x46, x47, x48, x49, x50, x51, x52, x53, x54, x55, x56, x57, x58, x59, x60, x61, x62, x63, x64, x65, x66, x67, x68, x69, x70, x71, x72, x73, x74, x75, x76, x77, x78, x79, x80, x81, x82, x83, x84, x85, x86, x87, x88, x89, x90, x91, x92, x93, x94, x95, x96, x97, x98, x99, x100, x101, x102, x103], []⟩ wc := by
  conv => arg 2; whnf
  obtain ⟨i0, hi, hz, hs, hb⟩ := info_u8
  have HI := hidden hi
  have HZ := hidden hz
  have HS := hidden hs
  have HBY := hidden hb
  clear hi hz hs hb
  go_wp2_with fail
  go_loopw [6, 8] (fun b' i' w' => ∃ (k : Nat), k ≤ G.ands.length ∧ i' = .int .i64 k ∧ Hid (Txt B w' b' (t0 ++ cat (pA pkT G first) k)) ∧ Hid (Step wc v0 w' b')) (fun _ i' _ => G.ands.length - (intOf i').toNat)
  case atStart => exact ⟨0, Nat.zero_le _, rfl, by show Txt _ _ _ _; rw [cat_zero, List.append_nil]; exact HT0.out, Step.refl _ _⟩
  case round =>
    obtain ⟨k, hk, rfl, HT, HSt⟩ := hrel
    have hsz := HSt.out.1.size
    have gfar : ∀ x, x < B → v0.ownBlock ≠ some x := fun x hx e => by have := HT0.out.ge x e; omega
    by_cases hlt : k < G.ands.length
    · have hltI : (k : Int) < (G.ands.length : Int) := by omega
      have e3 : IntKind.i64.wrap ((k : Int) + 1) = (k : Int) + 1 := wrapI _ (by omega) (by omega)
      have HNX := hidden (cat_next (pA pkT G first) k)
      have hlen : (t0 ++ cat (pA pkT G first) k).length ≤ 50000000 := by
        rw [List.length_append]
        have := cat_len (f := pA pkT G first) (m := 60) k (fun i hi => HFL.out i (by omega))
        omega
      obtain ⟨d, hd⟩ : ∃ d, G.ands[k]? = some d := getElem_lt hlt
      obtain ⟨rb, ro, ea, hrb, hrc⟩ := HR.out.el hd
      have hcell := (HSt.out.cell (p := ⟨gx, 2, none⟩) (by show gx < _; omega) (gfar gx hgx)).trans q0
      rw [ea] at hcell
      have c1 : wr.cell? ⟨rb, ro + k * 2, none⟩ = some (.int .i64 d.x) := (HSt.out.cell (p := ⟨rb, ro + k * 2, none⟩) (by show rb < _; omega) (gfar rb (by omega))).trans (hrc 0 _ rfl)
      have c2 : wr.cell? ⟨rb, ro + k * 2 + 1, none⟩ = some (.int .i64 d.y) := (HSt.out.cell (p := ⟨rb, ro + k * 2 + 1, none⟩) (by show rb < _; omega) (gfar rb (by omega))).trans (hrc 1 _ rfl)
      have hxi := hin k d hd
      have HFK := hidden (pA_line (gT := pkT) (first := first) hd)
      obtain ⟨dx, dy⟩ := d
      simp only at c1 c2 hxi
      obtain ⟨mx, hmx⟩ : ∃ m, m = max dx dy := ⟨_, rfl⟩
      obtain ⟨mn, hmn⟩ : ∃ m, m = min dx dy := ⟨_, rfl⟩
      obtain ⟨na, hna⟩ : ∃ a : Nat, (a : Int) = 2 * ((first : Int) + (k : Int)) - mx := ⟨(2 * ((first : Int) + (k : Int)) - mx).toNat, by omega⟩
      obtain ⟨nb, hnb⟩ : ∃ b : Nat, (b : Int) = mx - mn := ⟨(mx - mn).toNat, by omega⟩
      have HPK : Hid (pkT (2 * ((first : Int) + (k : Int))) ⟨dx, dy⟩ = sevenT na ++ sevenT nb) := by
        show _ = _
        unfold pkT
        simp only
        rw [← hmx, ← hmn, ← hna, ← hnb]; rfl
      have MO : Hid (∀ w' : World, Calls Tryd.prog 19 #[.int .i64 dx, .int .i64 dy] w' fun e w'' => e = .returned (.int .i64 mx) ∧ w'' = w') := fun w' => by rw [hmx]; exact most_any dx dy w'
      have eS : IntKind.i64.wrap (dx + dy) = dx + dy := wrapI _ (by omega) (by omega)
      have eT : IntKind.i64.wrap (dx + dy - mx) = mn := by rw [wrapI _ (by omega) (by omega)]; omega
      have eF : IntKind.i64.wrap ((first : Int) + (k : Int)) = (first : Int) + (k : Int) := wrapI _ (by omega) (by omega)
      have eG : IntKind.i64.wrap (2 * ((first : Int) + (k : Int))) = 2 * ((first : Int) + (k : Int)) := wrapI _ (by omega) (by omega)
      have eA : IntKind.i64.wrap (2 * ((first : Int) + (k : Int)) - mx) = (na : Int) := by rw [wrapI _ (by omega) (by omega)]; omega
      have eB : IntKind.i64.wrap (mx - mn) = (nb : Int) := by rw [wrapI _ (by omega) (by omega)]; omega
      have hnab : na < 4294967296 ∧ nb < 4294967296 := by omega
      have HM1 := hidden hna
      have HM2 := hidden hnb
      have HM3 : Hid (dx + dy - mx = mn) := by show _ = _; omega
      have hmb : 0 ≤ mx ∧ mx < 200000 ∧ 0 ≤ mn ∧ mn < 200000 := by omega
      clear hrc ea hd hmx hmn hna hnb
      go_upto_region 15 with fail
      (
      refine wp_region_noPanic ?_
      refine wp_region_held_drew (S := (fun w' => w'.cell? ⟨gx, 2, none⟩ = some (.slice (some ⟨rb, ro, none⟩) G.ands.length c) ∧ w'.cell? ⟨rb, ro + k * 2, none⟩ = some (.int .i64 dx) ∧ w'.cell? ⟨rb, ro + k * 2 + 1, none⟩ = some (.int .i64 dy))) (by kernel_rfl) (by first | assumption | exact ⟨hcell, c1, c2⟩) (fun hHeld => ?_)
      refine wpAnyH_take (i := 0) (oi := _) (v := ?_) rfl (by kernel_rfl) (by kernel_rfl) (by kernel_rfl) (fun _ _ _ h => h) (Or.inl ⟨by rfl, ?_⟩) (by assumption) ?_
      rotate_left
      · (intro w0 hSw; (try dsimp only at hSw); (try simp only [List.getElem_toArray, List.getElem_cons_zero]); go_simp; try (with_reducible rfl))
      try simp only [Act.put, List.getElem_toArray, List.getElem_cons_zero, List.setIfInBounds_toArray, List.set_cons_zero, List.set_cons_succ]
      refine wpAnyH_take (i := 1) (oi := _) (v := ?_) rfl (by kernel_rfl) (by kernel_rfl) (by kernel_rfl) (fun _ _ _ h => h) (Or.inl ⟨by rfl, ?_⟩) (by assumption) ?_
      rotate_left
      · (intro w0 hSw; (try dsimp only at hSw); (try simp only [List.getElem_toArray, List.getElem_cons_zero, List.getElem_cons_succ]); go_simp; try (with_reducible rfl))
      try simp only [Act.put, List.getElem_toArray, List.getElem_cons_zero, List.getElem_cons_succ, List.setIfInBounds_toArray, List.set_cons_zero, List.set_cons_succ]
      refine wpAnyH_take (i := 2) (oi := _) (v := ?_) rfl (by kernel_rfl) (by kernel_rfl) (by kernel_rfl) (fun _ _ _ h => h) (Or.inl ⟨by rfl, ?_⟩) (by assumption) ?_
      rotate_left
      · (intro w0 hSw; (try dsimp only at hSw); (try simp only [List.getElem_toArray, List.getElem_cons_zero, List.getElem_cons_succ]); go_simp; try (with_reducible rfl))
      try simp only [Act.put, List.getElem_toArray, List.getElem_cons_zero, List.getElem_cons_succ, List.setIfInBounds_toArray, List.set_cons_zero, List.set_cons_succ]
      refine wpAnyH_take (i := 3) (oi := _) (v := ?_) rfl (by kernel_rfl) (by kernel_rfl) (by kernel_rfl) (fun _ _ _ h => h) (Or.inl ⟨by rfl, ?_⟩) (by assumption) ?_
      rotate_left
      · (intro w0 hSw; (try dsimp only at hSw); (try simp only [List.getElem_toArray, List.getElem_cons_zero, List.getElem_cons_succ]); go_simp; try (with_reducible rfl))
      try simp only [Act.put, List.getElem_toArray, List.getElem_cons_zero, List.getElem_cons_succ, List.setIfInBounds_toArray, List.set_cons_zero, List.set_cons_succ]
      refine wpAnyH_take (i := 4) (oi := _) (v := ?_) rfl (by kernel_rfl) (by kernel_rfl) (by kernel_rfl) (fun _ _ _ h => h) (Or.inl ⟨by rfl, ?_⟩) (by assumption) ?_
      rotate_left
      · (intro w0 hSw; (try dsimp only at hSw); (try simp only [List.getElem_toArray, List.getElem_cons_zero, List.getElem_cons_succ]); go_simp; try (with_reducible rfl))
      try simp only [Act.put, List.getElem_toArray, List.getElem_cons_zero, List.getElem_cons_succ, List.setIfInBounds_toArray, List.set_cons_zero, List.set_cons_succ]
      refine wpAnyH_take (i := 5) (oi := _) (v := ?_) rfl (by kernel_rfl) (by kernel_rfl) (by kernel_rfl) (fun _ _ _ h => h) (Or.inl ⟨by rfl, ?_⟩) (by assumption) ?_
      rotate_left
      · (intro w0 hSw; (try dsimp only at hSw); (try simp only [List.getElem_toArray, List.getElem_cons_zero, List.getElem_cons_succ]); go_simp; try (with_reducible rfl))
      try simp only [Act.put, List.getElem_toArray, List.getElem_cons_zero, List.getElem_cons_succ, List.setIfInBounds_toArray, List.set_cons_zero, List.set_cons_succ]
      refine wpAnyH_take (i := 6) (oi := _) (v := ?_) rfl (by kernel_rfl) (by kernel_rfl) (by kernel_rfl) (fun _ _ _ h => h) (Or.inl ⟨by rfl, ?_⟩) (by assumption) ?_
      rotate_left
      · (intro w0 hSw; (try dsimp only at hSw); (try simp only [List.getElem_toArray, List.getElem_cons_zero, List.getElem_cons_succ]); go_simp; try (with_reducible rfl))
      try simp only [Act.put, List.getElem_toArray, List.getElem_cons_zero, List.getElem_cons_succ, List.setIfInBounds_toArray, List.set_cons_zero, List.set_cons_succ]
      refine wpAnyH_take (i := 7) (oi := _) (v := ?_) rfl (by kernel_rfl) (by kernel_rfl) (by kernel_rfl) (fun _ _ _ h => h) (Or.inl ⟨by rfl, ?_⟩) (by assumption) ?_
      rotate_left
      · (intro w0 hSw; (try dsimp only at hSw); (try simp only [List.getElem_toArray, List.getElem_cons_zero, List.getElem_cons_succ]); go_simp; try (with_reducible rfl))
      try simp only [Act.put, List.getElem_toArray, List.getElem_cons_zero, List.getElem_cons_succ, List.setIfInBounds_toArray, List.set_cons_zero, List.set_cons_succ]
      refine wpAnyH_take (i := 8) (oi := _) (v := ?_) rfl (by kernel_rfl) (by kernel_rfl) (by kernel_rfl) (fun _ _ _ h => h) (Or.inl ⟨by rfl, ?_⟩) (by assumption) ?_
      rotate_left
      · (intro w0 hSw; (try dsimp only at hSw); (try simp only [List.getElem_toArray, List.getElem_cons_zero, List.getElem_cons_succ]); go_simp; try (with_reducible rfl))
      try simp only [Act.put, List.getElem_toArray, List.getElem_cons_zero, List.getElem_cons_succ, List.setIfInBounds_toArray, List.set_cons_zero, List.set_cons_succ]
      refine wpAnyH_take (i := 9) (oi := _) (v := ?_) rfl (by kernel_rfl) (by kernel_rfl) (by kernel_rfl) (fun _ _ _ h => h) (Or.inl ⟨by rfl, ?_⟩) (by assumption) ?_
      rotate_left
      · (intro w0 hSw; (try dsimp only at hSw); (try simp only [List.getElem_toArray, List.getElem_cons_zero, List.getElem_cons_succ]); go_simp; try (with_reducible rfl))
      try simp only [Act.put, List.getElem_toArray, List.getElem_cons_zero, List.getElem_cons_succ, List.setIfInBounds_toArray, List.set_cons_zero, List.set_cons_succ]
      refine wpAnyH_take (i := 10) (oi := _) (v := ?_) rfl (by kernel_rfl) (by kernel_rfl) (by kernel_rfl) (fun _ _ _ h => h) (Or.inl ⟨by rfl, ?_⟩) (by assumption) ?_
      rotate_left
      · (intro w0 hSw; (try dsimp only at hSw); (try simp only [List.getElem_toArray, List.getElem_cons_zero, List.getElem_cons_succ]); go_simp; try (with_reducible rfl))
      try simp only [Act.put, List.getElem_toArray, List.getElem_cons_zero, List.getElem_cons_succ, List.setIfInBounds_toArray, List.set_cons_zero, List.set_cons_succ]
      refine wpAnyH_take (i := 11) (oi := _) (v := ?_) rfl (by kernel_rfl) (by kernel_rfl) (by kernel_rfl) (fun _ _ _ h => h) (Or.inl ⟨by rfl, ?_⟩) (by assumption) ?_
      rotate_left
      · (intro w0 hSw; (try dsimp only at hSw); (try simp only [List.getElem_toArray, List.getElem_cons_zero, List.getElem_cons_succ]); go_simp; try (with_reducible rfl))
      try simp only [Act.put, List.getElem_toArray, List.getElem_cons_zero, List.getElem_cons_succ, List.setIfInBounds_toArray, List.set_cons_zero, List.set_cons_succ]
      refine wpAnyH_ready (rs := [12]) (by kernel_rfl) (by simp) ?_
      refine AllReadyH.cons (o := _) rfl (fun K hK => ?_) AllReadyH.nil
      (try simp only [List.getElem_toArray, List.getElem_cons_zero, List.getElem_cons_succ])
      go_simp
      go_at_call 19
      refine (MO.out _).mono ?_
      rintro e w2 ⟨rfl, hw2⟩
      subst hw2
      go_wp2_with fail
      refine hK.out _ _ (by first | assumption | exact ⟨hcell, c1, c2⟩) (fun hHeld1 => ?_)
      clear hK K
      try simp only [Act.put, List.setIfInBounds_toArray, List.set_cons_zero, List.set_cons_succ]
      refine wpAnyH_take (i := 13) (oi := _) (v := ?_) rfl (by kernel_rfl) (by kernel_rfl) (by kernel_rfl) (fun _ _ _ h => h) (Or.inl ⟨by rfl, ?_⟩) (by assumption) ?_
      rotate_left
      · (intro w0 hSw; (try dsimp only at hSw); (try simp only [List.getElem_toArray, List.getElem_cons_zero, List.getElem_cons_succ]); go_simp; try (with_reducible rfl))
      try simp only [Act.put, List.getElem_toArray, List.getElem_cons_zero, List.getElem_cons_succ, List.setIfInBounds_toArray, List.set_cons_zero, List.set_cons_succ]
      refine wpAnyH_done (by kernel_rfl) ?_ _
      refine NoPanic.normal ?_
      )
      go_wp2_with fail
      go_quiet (fail)
      try rw [HM3.out]
      generalize hWB : World.drewN (World.drew wr) _ = wB
      have HBB : Hid (Below wr.heap.size wr wB) := by rw [← hWB]; exact Below.drewN (Below.drew (Below.refl _ _)) _
      have hsB := HBB.out.size
      clear hWB hcell c1 c2 MO eS eT
      go_wp2_with fail
      try rw [HM1.out.symm]
      go_at_call 20
      refine (seven_any wB na hnab.1).mono ?_
      rintro e w2 ⟨v2, rfl, hT2, hb2⟩
      have HTB : Hid (OwnM wB B 5 u6 (t0 ++ cat (pA pkT G first) k).length (bC8 (t0 ++ cat (pA pkT G first) k))) := OwnM.to HT.out HBB.out
      obtain ⟨g2, cp2, hv2, _, _⟩ := OwnM.row hT2 (seven_pos _)
      subst hv2
      have hs2 := hb2.size
      have HO2 : Hid (OwnM w2 B 5 u6 (t0 ++ cat (pA pkT G first) k).length (bC8 (t0 ++ cat (pA pkT G first) k))) := OwnM.to HTB.out hb2
      have HN2 : Hid (∀ j x, (bC8 (sevenT na))[j]? = some x → w2.cell? ((⟨g2, 0, none⟩ : Addr).add j) = some x) := OwnM.cells hT2 (g := g2) rfl
      have H12 : Hid (∀ x ∈ bC8 (sevenT na), x.oneCell' = true) := by
        intro x hx
        obtain ⟨y, _, rfl⟩ := List.mem_map.1 hx
        rfl
      have hl2 := seven_len na (by omega)
      have hb21 : (t0 ++ cat (pA pkT G first) k).length + (sevenT na).length ≤ 1000000000000 := by
        try simp only [List.length_append] at *
        omega
      have hb22 : B ≤ w2.heap.size := by omega
      have HB2 := hidden hb2
      clear hb2 hT2
      have tok : True := trivial
      go_upto_region 18 with (have _t := tok; at_builtin; (refine wpList_appendM _ rfl (.tmp 88) (.tmp 95) 30 rfl B 5 i0 Tryd.underlying30 HI.out HZ.out HS.out HBY.out u6 _ _ rfl HO2.out ⟨g2, 0, none⟩ _ cp2 (bC8 (sevenT na)) (bC8_len _) rfl HN2.out H12.out hb21 hb22 ?_; intro v3 w3 hown3 hst3; clear tok))
      have HT3 : Hid (Txt B w3 v3 (t0 ++ cat (pA pkT G first) k ++ sevenT na)) := by
        show OwnM _ _ _ _ _ _
        rw [← bC8_app, List.length_append]; exact hown3
      have HS3 : Hid (Step wr u6 w3 v3) := ((Step.same HBB.out).trans (Step.same HB2.out)).trans hst3
      have hs3 := HS3.out.1.size
      clear hown3 hst3 HO2 HN2 H12 hb21 hb22
      go_wp2_with fail
      try rw [HM2.out.symm]
      go_at_call 20
      refine (seven_any w3 nb hnab.2).mono ?_
      rintro e w4 ⟨v4, rfl, hT4, hb4⟩
      obtain ⟨g4, cp4, hv4, _, _⟩ := OwnM.row hT4 (seven_pos _)
      subst hv4
      have hs4 := hb4.size
      have HO4 : Hid (OwnM w4 B 5 v3 (t0 ++ cat (pA pkT G first) k ++ sevenT na).length (bC8 (t0 ++ cat (pA pkT G first) k ++ sevenT na))) := OwnM.to HT3.out hb4
      have HN4 : Hid (∀ j x, (bC8 (sevenT nb))[j]? = some x → w4.cell? ((⟨g4, 0, none⟩ : Addr).add j) = some x) := OwnM.cells hT4 (g := g4) rfl
      have H14 : Hid (∀ x ∈ bC8 (sevenT nb), x.oneCell' = true) := by
        intro x hx
        obtain ⟨y, _, rfl⟩ := List.mem_map.1 hx
        rfl
      have hl4 := seven_len nb (by omega)
      have hb41 : (t0 ++ cat (pA pkT G first) k ++ sevenT na).length + (sevenT nb).length ≤ 1000000000000 := by
        try simp only [List.length_append] at *
        omega
      have hb42 : B ≤ w4.heap.size := by omega
      have HB4 := hidden hb4
      clear hb4 hT4
      have tok : True := trivial
      go_wp2_with (have _t := tok; at_builtin; (refine wpList_appendM _ rfl (.tmp 97) (.tmp 101) 30 rfl B 5 i0 Tryd.underlying30 HI.out HZ.out HS.out HBY.out v3 _ _ rfl HO4.out ⟨g4, 0, none⟩ _ cp4 (bC8 (sevenT nb)) (bC8_len _) rfl HN4.out H14.out hb41 hb42 ?_; intro v5 w5 hown5 hst5; clear tok))
      have HT5 : Hid (Txt B w5 v5 (t0 ++ cat (pA pkT G first) (k + 1))) := by
        show OwnM _ _ _ _ _ _
        rw [HNX.out, HFK.out, HPK.out, ← List.append_assoc, ← List.append_assoc, ← bC8_app, List.length_append]; exact hown5
      have HS5 : Hid (Step wc v0 w5 v5) := ((HSt.out.trans HS3.out).trans (Step.same HB4.out)).trans hst5
      clear hown5 hst5 HO4 HN4 H14 hb41 hb42 HT HSt HT3 HS3 HNX HFK HPK
      go_wp2
      go_roundw
      case measure => simp [intOf]; omega
      case rel => exact ⟨k + 1, by omega, by simp, HT5.out, HS5.out⟩
    · have hge : ¬ ((k : Int) < (G.ands.length : Int)) := by omega
      have HEN : Hid (Txt B wr u6 (t0 ++ cat (pA pkT G first) G.ands.length)) := by
        have := HT.out
        rw [show k = G.ands.length by omega] at this
        exact this
      have hcell := (HSt.out.cell (p := ⟨gx, 2, none⟩) (by show gx < _; omega) (gfar gx hgx)).trans q0
      clear HT
      go_wp2
      exact HK.out _ _ _ _ _ _ _ _ _ _ _ _ _ _ _ _ _ _ _ _ _ _ _ _ _ _ _ _ _ _ _ _ _ _ _ _ _ _ _ _ _ _ _ _ _ _ _ _ _ _ _ _ _ _ _ ⟨HEN.out, HSt.out⟩
theorem txt_conv (w : World) (t : List UInt8) (cap : Nat) (W : World) (hc : cap = grownCap w t.length 0 5) (hW : W = Lib.bytesWorld w 5 (bs t)) (hl : t.length ≤ 1000000000) : Txt w.heap.size W (.slice (some ⟨w.heap.size, 0, none⟩) t.length cap) t := by
  have hge := grownCap_ge w t.length 0 5
  have hle := grownCap_le_maxLen w t.length 0 5 (by simp only [maxLen]; omega)
  have hsz : (Lib.bytesCells w 5 (bs t)).size = cap := by
    rw [hc]; unfold Lib.bytesCells; simp [bs, ByteArray.size]; omega
  refine ⟨bC8_len t, .inr ⟨w.heap.size, cap, Lib.bytesCells w 5 (bs t), (_, _), rfl, Nat.le_refl _, by rw [hW]; exact Lib.bytesWorld_at_new _ _ _, .inr (by rw [hsz]; exact Nat.le_refl _), by rw [hc]; exact hge, by rw [hc]; exact hle, hsz, ?_⟩⟩
  have e : (Lib.bytesCells w 5 (bs t)).toList = bC8 t ++ List.replicate (grownCap w (bs t).size 0 5 - (bs t).size) (.int .u8 0) := by
    unfold Lib.bytesCells; simp [bs, Lib.byteCells]
  rw [e]
  exact List.take_left' (bC8_len t)
set_option maxRecDepth 100000 in
set_option maxHeartbeats 8000000 in
theorem aigPack_any (B : Nat) (w : World) (S : GrS) (G : GrD) (h : GrAt B w S G) (hB : B ≤ w.heap.size) (hok : GrOk G = true) :
    Calls Tryd.prog 9 #[.agg (S.cells G)] w fun e w' => (∃ v B', e = .returned v ∧ w.heap.size ≤ B' ∧ Txt B' w' v (packT G)) ∧ Below w.heap.size w w' := by
  obtain ⟨ni, n, hF⟩ := fine_of hok
  have HD : Hid (∀ w' : World, Calls Tryd.prog 14 #[.string (bs [97, 105, 103]), .agg (S.cells G)] w' fun e w'' => e = .returned (.string (bs (headT [97, 105, 103] G))) ∧ Below w'.heap.size w' w'') := fun w' => head_any [97, 105, 103] (by decide) w' S G ni n hF
  have hl0 := headT_len hF [97, 105, 103] (by decide)
  have HLE := hidden (lens_of hF)
  have HLP : Hid ((∀ i, i < G.lats.length → (fF G i).length ≤ 60) ∧ (∀ i, i < G.ands.length → (pA pkT G (firstN G) i).length ≤ 60)) := ⟨fun i hi => by rw [← pL_bytes G ni i]; exact (lensP_bytes hF).1 i hi, (lensP_bytes hF).2⟩
  have HF := hidden hF
  have HIN := hidden hF.ins
  have f1 := hF.first
  have f2 := hF.all
  have f3 := hF.le
  have f4 := hF.ll
  have f5 := hF.lo
  obtain ⟨first, hfd⟩ : ∃ f, f = firstN G := ⟨_, rfl⟩
  have HFD := hidden hfd
  rw [← hfd] at f1 f2
  rw [← hfd] at HLE HLP
  have HAT := hidden h
  obtain ⟨t0, HT0⟩ : ∃ t0, Hid (headT [97, 105, 103] G = t0) := ⟨_, rfl⟩
  rw [HT0.out] at HD hl0
  have hfl : 1 + ni + G.lats.length ≤ first := by omega
  have hfl' : first ≤ 1 + ni + G.lats.length := by omega
  have hcs : S.cells G = #[.int .i64 (ni : Int), .slice S.a1 G.lats.length S.c1, .slice S.a2 G.ands.length S.c2, .slice S.a3 G.outs.length S.c3] := by unfold GrS.cells; rw [HIN.out]
  rw [hcs] at HD ⊢
  clear hcs h hF hok hfd f1
  go_enter Tryd.func9, Tryd.ntmps9
  go_upto_region 1 with fail
  generalize hW : World.alloc w _ = W0
  obtain ⟨gx, hgd⟩ : ∃ x, x = w.heap.size := ⟨_, rfl⟩
  have HB0 : Hid (Below w.heap.size w W0) := by rw [← hW]; exact (Below.refl _ _).alloc (Nat.le_refl _) _
  have HQ : Hid (∀ j, W0.cell? ⟨gx, j, none⟩ = (#[.int .i64 (ni : Int), .slice S.a1 G.lats.length S.c1, .slice S.a2 G.ands.length S.c2, .slice S.a3 G.outs.length S.c3] : Array Value)[j]?) := by
    rw [← hW, hgd]; intro j; exact cell_new rfl
  have hN : gx < W0.heap.size := by rw [← hW, hgd]; simp
  rw [← hgd]
  clear hW hgd
  have q0 := HQ.out 0
  have q1 := HQ.out 1
  have q2 := HQ.out 2
  have q3 := HQ.out 3
  simp at q0 q1 q2 q3
  go_wp2_with fail
  go_at_call 14
  refine (HD.out _).mono ?_
  rintro e w1 ⟨rfl, hb1⟩
  have HB1 := hidden hb1
  have hs1 := hb1.size
  have HBw1 : Hid (Below w.heap.size w w1) := HB0.out.trans (hb1.mono HB0.out.size)
  have K0 : Hid (∀ w', Below w1.heap.size w1 w' → ∀ j, w'.cell? ⟨gx, j, none⟩ = (#[.int .i64 (ni : Int), .slice S.a1 G.lats.length S.c1, .slice S.a2 G.ands.length S.c2, .slice S.a3 G.outs.length S.c3] : Array Value)[j]?) := fun w' hb j => (hb.cell (p := ⟨gx, j, none⟩) (by show gx < _; omega)).trans ((HB1.out.cell (p := ⟨gx, j, none⟩) hN).trans (HQ.out j))
  have KA : Hid (∀ w', Below w1.heap.size w1 w' → GrAt B w' S G) := fun w' hb => HAT.out.to ((HBw1.out.trans (hb.mono HBw1.out.size)).mono hB)
  have hsw := HBw1.out.size
  clear hb1 q0 q1 q2 q3 HQ HD HB0 HAT HB1
  go_upto_block 0 with fail
  refine pkLats w1 t0 (by omega) gx (by omega) G B n S.a1 S.c1 (by simpa using K0.out w1 (Below.refl _ _) 1) (KA.out w1 (Below.refl _ _)).l (by omega) f3 HF.out.lats (by omega) HLP.out.1 _ _ _ _ _ _ _ _ _ _ _ _ _ _ _ _ _ _ _ _ _ _ _ _ _ _ _ _ _ _ _ _ _ _ _ _ _ _ _ _ _ _ _ _ _ _ _ _ _ _ _ _ _ _ _ _ _ _ _ _ _ _ _ _ _ _ _ _ _ _ _ _ _ _ _ _ _ _ _ _ _ _ _ _ _ _ _ _ _ _ _ _ _ _ _ _ _ _ _ _ _ _ _ (hidden ?_)
  intro w2 v4 v13 v14 v15 v16 v17 v18 v19 v20 v21 v22 v23 v24 v25 v26 v27 hcut
  have HB2 := hidden hcut
  have hs2 := hcut.size
  clear hcut
  have hlL : (cat (fF G) G.lats.length).length ≤ 60 * G.lats.length := cat_len _ HLP.out.1
  generalize hT1 : t0 ++ cat (fF G) G.lats.length = t1
  have HT1 := hidden hT1
  have hl1 : t1.length ≤ 100 + 60 * G.lats.length := by rw [← hT1, List.length_append]; omega
  clear hT1
  go_upto_block 2 with fail
  refine pkOuts w2 t1 (by omega) gx (by omega) G B n S.a3 S.c3 (by simpa using K0.out w2 HB2.out 3) (KA.out w2 HB2.out).o (by omega) f3 HF.out.outs f5 HLE.out.o _ _ _ _ _ _ _ _ _ _ _ _ _ _ _ _ _ _ _ _ _ _ _ _ _ _ _ _ _ _ _ _ _ _ _ _ _ _ _ _ _ _ _ _ _ _ _ _ _ _ _ _ _ _ _ _ _ _ _ _ _ _ _ _ _ _ _ _ _ _ _ _ _ _ _ _ _ _ _ _ _ _ _ _ _ _ _ _ _ _ _ _ _ _ _ _ _ _ _ _ _ _ _ (hidden ?_)
  intro w3 v5 v28 v29 v30 v31 v32 v33 v34 v35 v36 v37 v38 v39 v40 v41 v42 v43 hcut
  have HB3 : Hid (Below w1.heap.size w1 w3) := HB2.out.trans (hcut.mono HB2.out.size)
  have hs3 := hcut.size
  clear hcut
  have hlO : (cat (fO G) G.outs.length).length ≤ 60 * G.outs.length := cat_len _ HLE.out.o
  generalize hT2 : t1 ++ cat (fO G) G.outs.length = t2
  have HT2 := hidden hT2
  have hl2 : t2.length ≤ 100 + 60 * G.lats.length + 60 * G.outs.length := by rw [← hT2, List.length_append]; omega
  clear hT2
  obtain ⟨W4, HW4⟩ : ∃ W4, Hid (W4 = Lib.bytesWorld w3 5 (bs t2)) := ⟨_, rfl⟩
  obtain ⟨cap, HCP⟩ : ∃ c, Hid (c = grownCap w3 t2.length 0 5) := ⟨_, rfl⟩
  have hcv : (convert 9 30 (.string (bs t2))).run Tryd.prog w3 = .ok (.slice (some ⟨w3.heap.size, 0, none⟩) t2.length cap) W4 := by
    rw [HW4.out, HCP.out]
    have := Lib.run_convert_string_bytes (P := Tryd.prog) w3 9 30 5 (bs t2) Tryd.underlying9 Tryd.underlying30 Tryd.underlying5
    rw [bs_size] at this
    exact this
  have HO4 := hidden (txt_conv w3 t2 cap W4 HCP.out HW4.out (by omega))
  have HB34 : Hid (Below w3.heap.size w3 W4) := by
    rw [HW4.out]
    exact ⟨rfl, rfl, rfl, by rw [Lib.bytesWorld_size]; omega, fun k hk => Lib.bytesWorld_at_old _ _ _ k hk⟩
  have hs4 := HB34.out.size
  have HB4 : Hid (Below w1.heap.size w1 W4) := HB3.out.trans (HB34.out.mono HB3.out.size)
  have r0 := K0.out W4 HB4.out 0
  have r1 := K0.out W4 HB4.out 1
  simp at r0 r1
  have eA : IntKind.i64.wrap ((1 : Int) + (ni : Int)) = (1 : Int) + (ni : Int) := wrapI _ (by omega) (by omega)
  have eB : IntKind.i64.wrap ((1 : Int) + (ni : Int) + (G.lats.length : Int)) = (first : Int) := by rw [wrapI _ (by omega) (by omega)]; omega
  go_upto_block 4 with fail
  refine pkAnds W4 w3.heap.size (.slice (some ⟨w3.heap.size, 0, none⟩) t2.length cap) t2 HO4 hs4 (by omega) gx (by omega) G B n first S.a2 S.c2 (by simpa using K0.out W4 HB4.out 2) (KA.out W4 HB4.out).a (by omega) f3 f2 (by rw [HFD.out]; exact HF.out.ands) HLP.out.2 _ _ _ _ _ _ _ _ _ _ _ _ _ _ _ _ _ _ _ _ _ _ _ _ _ _ _ _ _ _ _ _ _ _ _ _ _ _ _ _ _ _ _ _ _ _ _ _ _ _ _ _ _ _ _ _ _ _ _ _ _ _ _ _ _ _ _ _ _ _ _ _ _ _ _ _ _ _ _ _ _ _ _ _ _ _ _ _ _ _ _ _ _ _ _ _ _ _ _ _ _ _ (hidden ?_)
  intro w5 v6 v8 v9 v10 v53 v54 v55 v56 v57 v58 v59 v60 v61 v62 v63 v64 v65 v66 v67 v68 v69 v70 v71 v72 v73 v74 v75 v76 v77 v78 v79 v80 v81 v82 v83 v84 v85 v86 v87 v88 v89 v90 v91 v92 v93 v94 v95 v96 v97 v98 v99 v100 v101 v102 hcut
  obtain ⟨hT5, hS5⟩ := hcut
  have HB5 : Hid (Below w1.heap.size w1 w5) := HB4.out.trans ((hS5.below hs4 HO4.out.ge).mono (by omega))
  have HT5 : Hid (Txt w3.heap.size w5 v6 (packT G)) := by
    show Txt _ _ _ _
    unfold packT
    rw [← HFD.out, HT0.out, HT1.out, HT2.out]; exact hT5
  clear hT5 hS5
  go_wp2
  go_ret
  exact ⟨⟨v6, w3.heap.size, rfl, by omega, HT5.out⟩, HBw1.out.trans (HB5.out.mono HBw1.out.size)⟩


end Go.Proofs.YtdiahnommkhkiaaDoor
