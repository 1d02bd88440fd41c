import Derived.Test.YtmifbcpinhpnnaaDoorShl
import Derived.Test.YtmifbcpinhpnnaaDoorArM
import Derived.Test.YtmifbcpinhpnnaaDoorArB
import Derived.Lib.AppendIntMem
namespace Go.Proofs.YtmifbcpinhpnnaaDoor
open Go.RowKit Go.Sort

theorem dec_same (u : Nat) : Lib.decDigits u = decTxt u := by
  induction u using Nat.strongRecOn with
  | _ u ih =>
    rw [Lib.decDigits, decTxt]
    by_cases h : u < 10
    · rw [dif_pos h, if_pos (by omega)]
    · rw [dif_neg h, if_neg (by omega), ih (u / 10) (by omega)]
/-- the laid table of tens -/
def Tens (w : World) : Prop := Lib.TabIs Tryd.prog w "internal/strconv.uint64pow10" .u64 Lib.pow10Tab
theorem Tens.to {B : Nat} {w w' : World} (h : Tens w) (hb : Below B w w') (hB : Tryd.prog.globals.size ≤ B) : Tens w' := by
  unfold Tens Lib.TabIs World.var? at *
  cases hg : Tryd.prog.globalNamed "internal/strconv.uint64pow10" with
  | none => rw [hg] at h; simp at h
  | some g =>
    have hlt : g < Tryd.prog.globals.size := by
      have e : (match Tryd.prog.globalNamed "internal/strconv.uint64pow10" with | some g => decide (g < Tryd.prog.globals.size) | none => true) = true := by kernel_rfl
      rw [hg] at e
      simpa using e
    rw [hg] at h
    simp only [Option.bind_some] at *
    rw [hb.block g (by omega)]; exact h
theorem info_u80 : (Tryd.prog.info? 5).map (fun i => (i.zero, i.size, i.bytes)) = some (some (.int .u8 0), 1, 1) := by kernel_rfl
theorem info_u8 : ∃ i, Tryd.prog.info? 5 = some i ∧ i.zero = some (.int .u8 0) ∧ i.size = 1 ∧ i.bytes = 1 := by
  have h := info_u80
  cases hi : Tryd.prog.info? 5 with
  | none => rw [hi] at h; cases h
  | some i => rw [hi] at h; simp at h; exact ⟨i, rfl, h.1, h.2.1, h.2.2⟩
/-- bytes as cells -/
abbrev bC8 (l : List UInt8) : List Value := Lib.byteCells l
theorem bC8_app (a b : List UInt8) : bC8 a ++ bC8 b = bC8 (a ++ b) := by simp [Lib.byteCells]
theorem bC8_len (l : List UInt8) : (bC8 l).length = l.length := by simp [Lib.byteCells]
/-- a text that one owns -/
def Txt (B : Nat) (w : World) (v : Value) (t : List UInt8) : Prop := OwnM w B 5 v t.length (bC8 t)
theorem Txt.to {B : Nat} {w w' : World} {v : Value} {t : List UInt8} (h : Txt B w v t) (hb : Below w.heap.size w w') : Txt B w' v t := OwnM.to h hb

set_option maxRecDepth 100000 in
set_option maxHeartbeats 8000000 in
theorem appendUint_any (B : Nat) (w : World) (v : Value) (t : List UInt8) (h : Txt B w v t) (hB : B ≤ w.heap.size) (hl : t.length ≤ 100000000) (u : Nat) (hu : u < 4294967296) (ht : Tens w) (hg : Tryd.prog.globals.size ≤ w.heap.size) :
    Calls Tryd.prog 35 #[v, .int .u64 u, .int .i64 10] w fun e w' => ∃ v', e = .returned v' ∧ Txt B w' v' (t ++ decTxt u) ∧ Step w v w' v' := by
  obtain ⟨i0, hi, hz, hs, hb⟩ := info_u8
  have HI := hidden hi
  have HZ := hidden hz
  have HS := hidden hs
  have HBY := hidden hb
  clear hi hz hs hb
  have hdl := dec_len u hu
  have HOW := hidden h
  clear h
  by_cases hi : u < 100
  · have hwr : IntKind.i64.wrap (u : Int) = (u : Int) := wrapI _ (by omega) (by omega)
    have hsz : (⟨(Lib.decDigits u).toArray⟩ : ByteArray).size = (Lib.decDigits u).length := by simp [ByteArray.size]
    have hcs : Lib.strCells ⟨(Lib.decDigits u).toArray⟩ = bC8 (decTxt u) := by rw [dec_same]; rfl
    have hbd : t.length + (⟨(Lib.decDigits u).toArray⟩ : ByteArray).size ≤ 1000000000000 := by rw [hsz, dec_same]; omega
    have HSZ := hidden hsz
    have HCS := hidden hcs
    clear hsz hcs
    go_enter Tryd.func35, Tryd.ntmps35
    go_wp2_with fail
    go_at_call 36
    refine (Tryd.internal_strconv_small u hi _).mono ?_
    rintro e w' ⟨rfl, rfl⟩
    have tok : True := trivial
    go_wp2_with (have _t := tok; at_builtin; (refine wpList_appendMs _ rfl (.tmp 13) (.tmp 16) 33 9 rfl B 5 i0 Tryd.underlying33 Tryd.underlying9 HI.out HZ.out HS.out HBY.out v t.length _ rfl HOW.out _ rfl hbd hB ?_; intro v1 w1 hown1 hgrow1; clear tok))
    go_ret
    refine ⟨v1, rfl, ?_, hgrow1⟩
    rw [HSZ.out, HCS.out, dec_same] at hown1
    unfold Txt
    rw [← bC8_app, List.length_append]; exact hown1
  · have hu1 : 1 ≤ u := by omega
    have hu64 : u < 18446744073709551616 := by omega
    have hnd20 : Lib.nDigits u ≤ 20 := by have := Lib.numDigits_eq u hu1 hu64; split at this <;> omega
    have hb3 : Lib.nDigits u ≤ 23 := by omega
    have hal : Tryd.prog.arrayLen 61 = 24 := by kernel_rfl
    have hsl1 : ∀ W, (Instr.sliceAt 61 (.pointer (some ⟨w.heap.size, 0, none⟩)) none (some (.int .i64 (Lib.nDigits u : Int))) none).run Tryd.prog W = .ok (.slice (some ⟨w.heap.size, 0, none⟩) (Lib.nDigits u) 24) W := fun W => by
      rw [run_sliceAt_array_h W 61 ⟨w.heap.size, 0, none⟩ (by kernel_rfl) .i64 (Lib.nDigits u : Int) (by omega) (by rw [hal]; omega)]
      go_simp
    have hH0 := Lib.holds_zero0 w 61 (Lib.nDigits u) (by omega)
    have hfmt := Tryd.internal_strconv_formatBase10 w.heap.size 0 24 u (Array.replicate (Lib.nDigits u) 0) (w.alloc (.cells Lib.zeros24 61)) hH0 (by rw [Array.size_replicate]; exact Lib.lt_pow_nDigits u) hu64 (by rw [Array.size_replicate]; omega)
    rw [Array.size_replicate] at hfmt
    have HH0 := hidden hH0
    have HTB := hidden ht
    have HND := hidden (Lib.decDigits_length u)
    have hnl : t.length + Lib.nDigits u ≤ 1000000000000 := by omega
    clear hH0 hal ht
    go_enter Tryd.func35, Tryd.ntmps35
    go_wp2_with (first | (go_at_call 37; refine (Tryd.internal_strconv_numDigits u hu1 hu64 _ (Lib.tabIs_alloc HTB.out _)).mono ?_; rintro e w' ⟨rfl, rfl⟩))
    refine hfmt.mono ?_
    rintro e w' ⟨rfl, k, v', dk, rfl, hF⟩
    have hcells : ∀ j (hj : j < (Lib.decDigits u).length), ((putRow (fun (b : UInt8) => Value.int .u8 (b.toNat : Int)) (w.alloc (.cells Lib.zeros24 61)) w.heap.size 0 dk).drewN k).cell? ((⟨w.heap.size, 0, none⟩ : Addr).add j) = some (.int .u8 ((Lib.decDigits u)[j].toNat : Int)) := fun j hj => by
      rw [Lib.row_is_numeral hF j hj, Lib.add_plain, World.cell?_drewN]
      exact cell?_putRow (fun (b : UInt8) => Value.int .u8 (b.toNat : Int)) _ w.heap.size 0 _ dk HH0.out (by rw [hF.size, Array.size_replicate]) j (by rw [hF.size]; rw [Lib.decDigits_length] at hj; exact hj)
    obtain ⟨os, eo⟩ := Lib.fin_at w (.cells Lib.zeros24 61) dk k 0
    generalize hV : (putRow (fun (b : UInt8) => Value.int .u8 (b.toNat : Int)) (w.alloc (.cells Lib.zeros24 61)) w.heap.size 0 dk).drewN k = V at *
    have HBV : Hid (Below w.heap.size w V) := by rw [eo]; exact Lib.below_grow w.heap.size w (Nat.le_refl _) k os
    have HOV : Hid (OwnM V B 5 v t.length (bC8 t)) := OwnM.to HOW.out HBV.out
    have hnews : ∀ j x, (bC8 (Lib.decDigits u))[j]? = some x → V.cell? ((⟨w.heap.size, 0, none⟩ : Addr).add j) = some x := fun j x hx => by
      have hj : j < (Lib.decDigits u).length := by have := (List.getElem?_eq_some_iff.1 hx).1; rw [bC8_len] at this; exact this
      rw [hcells j hj]
      unfold bC8 Lib.byteCells at hx
      rw [List.getElem?_map, List.getElem?_eq_getElem hj] at hx
      simpa using hx
    have h1c : ∀ x ∈ bC8 (Lib.decDigits u), x.oneCell' = true := by
      intro x hx
      obtain ⟨y, _, rfl⟩ := List.mem_map.1 hx
      rfl
    have hBV : B ≤ V.heap.size := Nat.le_trans hB HBV.out.size
    have hnn : (bC8 (Lib.decDigits u)).length = Lib.nDigits u := by rw [bC8_len, Lib.decDigits_length]
    have HNW := hidden hnews
    have H1C := hidden h1c
    have HNN := hidden hnn
    clear HH0 hF eo hfmt hcells hV hnews h1c hnn
    have tok : True := trivial
    go_wp2_with (have _t := tok; at_builtin; (refine wpList_appendM _ rfl (.tmp 24) (.tmp 26) 33 rfl B 5 i0 Tryd.underlying33 HI.out HZ.out HS.out HBY.out v t.length _ rfl HOV.out ⟨w.heap.size, 0, none⟩ (Lib.nDigits u) 24 (bC8 (Lib.decDigits u)) HNN.out rfl HNW.out H1C.out hnl hBV ?_; intro v1 w1 hown1 hgrow1; clear tok))
    go_ret
    refine ⟨v1, rfl, ?_, (Step.same HBV.out).trans hgrow1⟩
    rw [← HND.out, dec_same] at hown1
    unfold Txt
    rw [← bC8_app, List.length_append]; exact hown1

set_option maxRecDepth 100000 in
theorem appendIntI_any (B : Nat) (w : World) (v : Value) (t : List UInt8) (h : Txt B w v t) (hB : B ≤ w.heap.size) (hl : t.length ≤ 100000000) (x : Int) (h0 : 0 ≤ x) (hx : x < 4294967296) (ht : Tens w) (hg : Tryd.prog.globals.size ≤ w.heap.size) :
    Calls Tryd.prog 34 #[v, .int .i64 x, .int .i64 10] w fun e w' => ∃ v', e = .returned v' ∧ Txt B w' v' (t ++ decI x) ∧ Step w v w' v' := by
  obtain ⟨u, rfl⟩ : ∃ u : Nat, x = (u : Int) := ⟨x.toNat, by omega⟩
  have AU := hidden (appendUint_any B w v t h hB hl u (by omega) ht hg)
  have e : IntKind.u64.wrap (u : Int) = (u : Int) := by rw [IntKind.wrap_u64]; omega
  have hn : ¬ ((u : Int) < 0) := by omega
  clear h ht
  go_enter Tryd.func34, Tryd.ntmps34
  go_wp2_with fail
  go_at_call 35
  refine AU.out.mono ?_
  rintro e w1 ⟨v1, rfl, hT, hb⟩
  go_wp2
  go_ret
  exact ⟨v1, rfl, hT, hb⟩
set_option maxRecDepth 100000 in
theorem appendInt_any (B : Nat) (w : World) (v : Value) (t : List UInt8) (h : Txt B w v t) (hB : B ≤ w.heap.size) (hl : t.length ≤ 100000000) (x : Int) (h0 : 0 ≤ x) (hx : x < 4294967296) (ht : Tens w) (hg : Tryd.prog.globals.size ≤ w.heap.size) :
    Calls Tryd.prog 32 #[v, .int .i64 x, .int .i64 10] w fun e w' => ∃ v', e = .returned v' ∧ Txt B w' v' (t ++ decI x) ∧ Step w v w' v' := by
  have AU := hidden (appendIntI_any B w v t h hB hl x h0 hx ht hg)
  clear h ht
  go_enter Tryd.func32, Tryd.ntmps32
  go_wp2_with fail
  go_at_call 34
  refine AU.out.mono ?_
  rintro e w1 ⟨v1, rfl, hT, hb⟩
  go_wp2
  go_ret
  exact ⟨v1, rfl, hT, hb⟩

end Go.Proofs.YtmifbcpinhpnnaaDoor
