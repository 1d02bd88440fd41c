import Derived.Test.YtmifbcpinhpnnaaDoorArE
namespace Go.Proofs.YtmifbcpinhpnnaaDoor
open Go.RowKit

/-- numbers, a blank between two -/
def joinT : List Int → List UInt8
  | [] => []
  | [x] => decI x
  | x :: y :: r => decI x ++ [32] ++ joinT (y :: r)
theorem joinT_snoc (l : List Int) (x : Int) : joinT (l ++ [x]) = joinT l ++ (if l = [] then [] else [32]) ++ decI x := by
  induction l with
  | nil => simp [joinT]
  | cons a t ih =>
    cases t with
    | nil => simp [joinT]
    | cons b r =>
      have e : joinT (a :: b :: r ++ [x]) = decI a ++ [32] ++ joinT (b :: r ++ [x]) := rfl
      rw [e, ih]
      simp [joinT]
theorem joinT_len (l : List Int) (h : ∀ x, x ∈ l → x < 4294967296) : (joinT l).length ≤ 11 * l.length := by
  induction l with
  | nil => simp [joinT]
  | cons a t ih =>
    have h1 := decI_len (h a List.mem_cons_self)
    have h2 := ih fun x hx => h x (List.mem_cons_of_mem _ hx)
    cases t with
    | nil => simp [joinT]; omega
    | cons b r =>
      simp only [joinT, List.length_append, List.length_cons, List.length_nil] at h2 ⊢
      omega
def lineT (l : List Int) : List UInt8 := joinT l ++ [10]
theorem Txt.ge {B : Nat} {w : World} {v : Value} {t : List UInt8} (h : Txt B w v t) : ∀ k, v.ownBlock = some k → B ≤ k := fun k hk => (OwnM.lt h k hk).1
theorem Step.cell {w w' : World} {v v' : Value} (h : Step w v w' v') {p : Addr} (hp : p.block < w.heap.size) (hv : v.ownBlock ≠ some p.block) : w'.cell? p = w.cell? p := h.1.cell_far p hp (fun e => hv e.symm)
theorem Tens.step {w w' : World} {v v' : Value} (h : Tens w) (hs : Step w v w' v') {B : Nat} (hB : B ≤ w.heap.size) (hv : ∀ k, v.ownBlock = some k → B ≤ k) (hg : Tryd.prog.globals.size ≤ B) : Tens w' := h.to (hs.below hB hv) hg
/-- one byte is put behind -/
theorem txt_one {B : Nat} {w' : World} {v' : Value} {t : List UInt8} {c : UInt8} (h : OwnM w' B 5 v' (t.length + 1) (bC8 t ++ [.int .u8 (c.toNat : Int)])) : Txt B w' v' (t ++ [c]) := by
  unfold Txt
  rw [← bC8_app, List.length_append]; exact h

set_option maxRecDepth 100000 in
set_option maxHeartbeats 8000000 in
theorem appendLine_any (B : Nat) (w : World) (v : Value) (t : List UInt8) (h : Txt B w v t) (hB : B ≤ w.heap.size) (hG : Tryd.prog.globals.size ≤ B) (hl : t.length ≤ 50000000) (ht : Tens w) (L : List Int) (lb lo lc : Nat) (hlb : lb < w.heap.size) (hne : v.ownBlock ≠ some lb) (hR : ∀ (i : Nat) (x : Int), L[i]? = some x → w.cell? ⟨lb, lo + i, none⟩ = some (.int .i64 x)) (hL : ∀ x, x ∈ L → 0 ≤ x ∧ x < 4294967296) (hLl : L.length ≤ 10) :
    Calls Tryd.prog 26 #[v, .slice (some ⟨lb, lo, none⟩) L.length lc] w fun e w' => ∃ v', e = .returned v' ∧ Txt B w' v' (t ++ lineT L) ∧ Step w v w' v' := by
  obtain ⟨i0, hi, hz, hs, hb⟩ := info_u8
  have HI := hidden hi
  have HZ := hidden hz
  have HS := hidden hs
  have HBY := hidden hb
  have HTX := hidden h
  have HTE := hidden ht
  have HRR := hidden hR
  have hgv := h.ge
  clear hi hz hs hb h ht hR
  go_enter Tryd.func26, Tryd.ntmps26
  go_wp2_with fail
  go_loopw [0, 9] (fun b' i' w' => ∃ (k : Nat), k ≤ L.length ∧ i' = .int .i64 k ∧ Hid (Txt B w' b' (t ++ joinT (L.take k))) ∧ Hid (Step w v w' b')) (fun _ i' _ => L.length - (intOf i').toNat)
  case atStart => exact ⟨0, Nat.zero_le _, rfl, by have := HTX.out; show Txt _ _ _ _; simpa [joinT] using this, Step.refl _ _⟩
  case round =>
    obtain ⟨k, hk, rfl, HT, HSt⟩ := hrel
    have hsz := HSt.out.1.size
    have hgu := HT.out.ge
    have hlen : (t ++ joinT (L.take k)).length ≤ 60000000 := by
      rw [List.length_append]
      have := joinT_len (L.take k) (fun x hx => (hL x (List.mem_of_mem_take hx)).2)
      rw [List.length_take] at this
      omega
    by_cases hlt : k < L.length
    · obtain ⟨x, hx⟩ : ∃ x, L[k]? = some x := getElem_lt hlt
      have hxi := hL x (List.mem_of_getElem? hx)
      have c1 : wr.cell? ⟨lb, lo + k, none⟩ = some (.int .i64 x) := (HSt.out.cell (p := ⟨lb, lo + k, none⟩) hlb hne).trans (HRR.out k x hx)
      have hltI : (k : Int) < (L.length : Int) := by omega
      have e3 : IntKind.i64.wrap ((k : Int) + 1) = (k : Int) + 1 := wrapI _ (by omega) (by omega)
      have HNX : Hid (joinT (L.take (k + 1)) = joinT (L.take k) ++ (if L.take k = [] then [] else [32]) ++ decI x) := by
        show _ = _
        rw [take_next L k x hx, joinT_snoc]
      have HTEr : Hid (Tens wr) := HTE.out.step HSt.out hB hgv hG
      by_cases hk0 : k = 0
      · have HE : Hid (L.take k = []) := by show _ = _; rw [hk0]; rfl
        have hkI : ¬ ((0 : Int) < (k : Int)) := by omega
        clear hk0
        have AI : Hid (Calls Tryd.prog 32 #[u0, .int .i64 x, .int .i64 10] wr fun e w' => ∃ v', e = .returned v' ∧ Txt B w' v' (t ++ joinT (L.take k) ++ decI x) ∧ Step wr u0 w' v') := appendInt_any B wr u0 _ HT.out (by omega) (by omega) x hxi.1 hxi.2 HTEr.out (by omega)
        clear HTEr
        go_wp2_with fail
        go_at_call 32
        refine AI.out.mono ?_
        rintro e w5 ⟨v5, rfl, hT5, hS5⟩
        have HT5 : Hid (Txt B w5 v5 (t ++ joinT (L.take (k + 1)))) := by
          show Txt _ _ _ _
          rw [HNX.out, if_pos HE.out, List.append_nil, ← List.append_assoc]; exact hT5
        have HS5 : Hid (Step w v w5 v5) := HSt.out.trans hS5
        clear hT5 hS5 AI HT HSt HNX c1 hgu HE
        go_wp2
        go_roundw
        case measure => simp [intOf]; omega
        case rel => exact ⟨k + 1, by omega, by simp, HT5.out, HS5.out⟩
      · have hkI : (0 : Int) < (k : Int) := by omega
        have hkn : L.take k ≠ [] := by intro e; have := congrArg List.length e; rw [List.length_take, List.length_nil] at this; omega
        have HOA : Hid (OwnM (wr.alloc (.cells #[.int .u8 32] 5)) B 5 u0 (t ++ joinT (L.take k)).length (bC8 (t ++ joinT (L.take k)))) := OwnM.alloc HT.out _
        have hb1 : (t ++ joinT (L.take k)).length + 1 ≤ 1000000000000 := by omega
        have hB1 : B ≤ (wr.alloc (.cells #[.int .u8 32] 5)).heap.size := by simp; omega
        have HKN := hidden hkn
        clear hkn
        have tok : True := trivial
        go_upto_region 6 with (have _t := tok; at_builtin; (refine wpList_appendM _ rfl (.tmp 16) (.tmp 17) 33 rfl B 5 i0 Tryd.underlying33 HI.out HZ.out HS.out HBY.out u0 _ _ rfl HOA.out ⟨wr.heap.size, 0, none⟩ 1 1 [.int .u8 32] rfl rfl (World.news_of_block (heap_new _ _)) (by simp [Value.oneCell']) hb1 hB1 ?_; intro v4 w4 hown4 hst4; clear tok))
        have HT4 : Hid (Txt B w4 v4 (t ++ joinT (L.take k) ++ [32])) := txt_one hown4
        have HS4 : Hid (Step wr u0 w4 v4) := (Step.same ((Below.refl _ _).alloc (Nat.le_refl _) _)).trans hst4
        have hs4 := HS4.out.1.size
        have HTE4 : Hid (Tens w4) := HTEr.out.step HS4.out (by omega) hgu hG
        have AI : Hid (Calls Tryd.prog 32 #[v4, .int .i64 x, .int .i64 10] w4 fun e w' => ∃ v', e = .returned v' ∧ Txt B w' v' (t ++ joinT (L.take k) ++ [32] ++ decI x) ∧ Step w4 v4 w' v') := appendInt_any B w4 v4 _ HT4.out (by omega) (by simp only [List.length_append, List.length_cons, List.length_nil] at hlen ⊢; omega) x hxi.1 hxi.2 HTE4.out (by omega)
        clear HTEr HTE4 hown4 hst4 HOA hb1 hB1 c1
        go_wp2_with fail
        go_at_call 32
        refine AI.out.mono ?_
        rintro e w5 ⟨v5, rfl, hT5, hS5⟩
        have HT5 : Hid (Txt B w5 v5 (t ++ joinT (L.take (k + 1)))) := by
          show Txt _ _ _ _
          rw [HNX.out, if_neg HKN.out]
          simp only [← List.append_assoc] at hT5 ⊢
          exact hT5
        have HS5 : Hid (Step w v w5 v5) := (HSt.out.trans HS4.out).trans hS5
        clear hT5 hS5 AI HT HSt HNX hgu HKN HT4 HS4
        go_wp2
        go_roundw
        case measure => simp [intOf]; omega
        case rel => exact ⟨k + 1, by omega, by simp, HT5.out, HS5.out⟩
    · have hge : ¬ ((k : Int) < (L.length : Int)) := by omega
      have HTT : Hid (Txt B wr u0 (t ++ joinT L)) := by
        have := HT.out
        rw [List.take_of_length_le (by omega)] at this
        exact this
      have hlen' : (t ++ joinT L).length ≤ 60000000 := by rw [List.take_of_length_le (by omega)] at hlen; exact hlen
      have HOA : Hid (OwnM (wr.alloc (.cells #[.int .u8 10] 5)) B 5 u0 (t ++ joinT L).length (bC8 (t ++ joinT L))) := OwnM.alloc HTT.out _
      have hb1 : (t ++ joinT L).length + 1 ≤ 1000000000000 := by omega
      have hB1 : B ≤ (wr.alloc (.cells #[.int .u8 10] 5)).heap.size := by simp; omega
      clear HT
      have tok : True := trivial
      go_wp2_with (have _t := tok; at_builtin; (refine wpList_appendM _ rfl (.tmp 23) (.tmp 24) 33 rfl B 5 i0 Tryd.underlying33 HI.out HZ.out HS.out HBY.out u0 _ _ rfl HOA.out ⟨wr.heap.size, 0, none⟩ 1 1 [.int .u8 10] rfl rfl (World.news_of_block (heap_new _ _)) (by simp [Value.oneCell']) hb1 hB1 ?_; intro v4 w4 hown4 hst4; clear tok))
      go_ret
      refine ⟨v4, rfl, ?_, (HSt.out.trans (Step.same ((Below.refl _ _).alloc (Nat.le_refl _) _))).trans hst4⟩
      have := txt_one (c := 10) hown4
      unfold lineT
      rw [← List.append_assoc]; exact this

end Go.Proofs.YtmifbcpinhpnnaaDoor
