import Derived.Test.YtlaljeobdddegaaMqG
namespace Go.Proofs.Ytlaljeobdddegaa
open Go.RowKit Mp

theorem filter_next {α : Type} (p : α → Bool) (l : List α) (k : Nat) (x : α) (h : l[k]? = some x) : (l.take (k + 1)).filter p = (l.take k).filter p ++ (if p x then [x] else []) := by
  rw [take_next _ _ _ h, List.filter_append]
  congr 1
  by_cases hp : p x = true
  · simp [hp]
  · simp only [Bool.not_eq_true] at hp; simp [hp]
theorem filter_len {α : Type} (p : α → Bool) (l : List α) (k : Nat) : ((l.take k).filter p).length ≤ k := Nat.le_trans (List.length_filter_le _ _) (by rw [List.length_take]; omega)
theorem grow_tr {a b c : World} {row : Option Nat} (h : a.grownBy b row) (k : b.grownBy c row) : a.grownBy c row :=
  ⟨k.os.trans h.os, k.tape.trans h.tape, k.output.trans h.output, Nat.le_trans h.size k.size, fun i hi hr => (k.block i (Nat.lt_of_lt_of_le hi h.size) hr).trans (h.block i hi hr)⟩
theorem grow_low {a b : World} {row : Option Nat} {C : Nat} (h : a.grownBy b row) (hC : C ≤ a.heap.size) (hr : ∀ k, row = some k → C ≤ k) : Below C a b :=
  ⟨h.os, h.tape, h.output, h.size, fun k hk => h.block k (by omega) (fun e => by have := hr k e.symm; omega)⟩

set_option maxRecDepth 100000 in
set_option maxHeartbeats 8000000 in
theorem unbeaten_some (C : Nat) (w : World) (S : FnS) (Cs : List (List Ct)) (h : FinR w S Cs) (hl : FnLow C S) (hC : C ≤ w.heap.size) (hcs : HasC Cs) (bb bo : Nat) (c : Ct) (hc : CtAt w bb bo c) (lc : LvIn Cs.length c) (kb cap : Nat) (ks : List Ct) (ho : w.ownsRow C 114 8 (.slice (some ⟨kb, 0, none⟩) ks.length cap) ks.length (flC ks)) (hbk : bb ≠ kb) (lk : ∀ k, k ∈ ks → LvIn Cs.length k) (hn : ks.length ≤ 1000000) :
    Calls Try.prog 73 #[.pointer (some ⟨S.fb, 0, none⟩), .slice (some ⟨kb, 0, none⟩) ks.length cap, .pointer (some ⟨bb, bo, none⟩)] w fun e w' => ∃ m : Nat, Hid (m = (ks.filter fun k => !beatsB (KOf Cs) c.lv k.lv).length) ∧ e = .returned (.slice (some ⟨kb, 0, none⟩) m cap) ∧ Hid (w'.ownsRow C 114 8 (.slice (some ⟨kb, 0, none⟩) m cap) m (flC (ks.filter fun k => !beatsB (KOf Cs) c.lv k.lv))) ∧ Hid (w.grownBy w' (some kb)) := by
  obtain ⟨hCk, hcap, hmx, hth⟩ := Thin.new ho
  have HTH := hidden hth
  have HLO : Hid (∀ v : World, w.grownBy v (some kb) → Below C w v) := fun v hv => grow_low hv hC (fun k e => by injection e with e; omega)
  have HBT : Hid (∀ (v : World) (k : Nat) (x : Ct), w.grownBy v (some kb) → ks[k]? = some x → CtAt v kb (k * 8) x → Calls Try.prog 77 #[.pointer (some ⟨S.fb, 0, none⟩), .pointer (some ⟨bb, bo, none⟩), .pointer (some ⟨kb, k * 8, none⟩)] v fun e w' => e = .returned (.bool (beatsB (KOf Cs) c.lv x.lv)) ∧ Bl v w') := fun v k x hv hx hat =>
    beats_any v S Cs (h.low hl (HLO.out v hv)) hcs bb bo kb _ c x (hc.heap hv.size (hv.block bb hc.lt (fun e => hbk (by injection e)))) hat lc.1 (lk x (List.mem_of_getElem? hx)).1 (lk x (List.mem_of_getElem? hx)).2
  obtain ⟨p, HP⟩ : ∃ p : Ct → Bool, Hid (∀ k : Ct, beatsB (KOf Cs) c.lv k.lv = p k) := ⟨_, fun _ => rfl⟩
  simp only [HP.out] at HBT ⊢
  obtain ⟨fs, HFS⟩ : ∃ fs, Hid (fs = ks.filter fun k => !p k) := ⟨_, rfl⟩
  rw [← HFS.out]
  generalize S.fb = fb at *
  obtain ⟨n, En⟩ := exh ks.length
  rw [← En.out] at hn hcap
  rw [← En.out]
  have RS : ∀ wx : World, (Instr.sliceAt 83 (.slice (some ⟨kb, 0, none⟩) n cap) none (some (.int .i64 0)) none).run Try.prog wx = .ok (.slice (some ⟨kb, 0, none⟩) 0 cap) wx := fun wx => cut_some wx kb n cap
  obtain ⟨ic, hic, hz, hs, hby⟩ := info_cut
  have HI := hidden hic
  have HSI := hidden hs
  clear h hcs hc lc lk HP ho hth hic hz hs hby hl
  go_enter Try.func73, Try.ntmps73
  go_wp2_with fail
  clear RS
  go_loopw [7, 8, 13] (fun r' _ i' w' => ∃ (k m : Nat), k ≤ n ∧ i' = .int .i64 (k : Int) ∧ r' = .slice (some ⟨kb, 0, none⟩) m cap ∧ m ≤ k ∧ Hid (m = ((ks.take k).filter fun k => !p k).length) ∧ Hid (Thin w' kb cap k ks ((ks.take k).filter fun k => !p k)) ∧ Hid (w.grownBy w' (some kb))) (fun _ _ i' _ => n - (intOf i').toNat)
  case atStart => exact ⟨0, 0, Nat.zero_le _, rfl, rfl, Nat.zero_le _, rfl, HTH.out, World.grownBy.refl _ _⟩
  case round =>
    clear HTH
    obtain ⟨k, m, hk, rfl, rfl, hmk, HM, HT, HG⟩ := hrel
    by_cases hlt : k < n
    · have hltI : (k : Int) < (n : Int) := by omega
      obtain ⟨x, hx⟩ := getElem_lt (show k < ks.length by rw [← En.out]; exact hlt)
      have HCL := hidden (HBT.out wr k x HG.out hx (HT.out.at (Nat.le_refl _) hx))
      have e2 : IntKind.i64.wrap ((k : Int) + 1) = (k : Int) + 1 := wrapI _ (by omega) (by omega)
      have HNX : Hid ((ks.take (k + 1)).filter (fun k => !p k) = (ks.take k).filter (fun k => !p k) ++ (if !p x then [x] else [])) := filter_next (fun k => !p k) ks k x hx
      have HX := hidden hx
      clear hx
      go_wp2_with fail
      go_at_call 77
      refine HCL.out.mono ?_
      rintro e v2 ⟨rfl, hv2⟩
      have HG2 : Hid (w.grownBy v2 (some kb)) := grow_tr HG.out (Bl.grown hv2 _)
      have HT2 := hidden (HT.out.to hv2)
      clear hv2 HCL HT HG
      cases hp : p x with
      | true =>
        have HN2 : Hid ((ks.take (k + 1)).filter (fun k => !p k) = (ks.take k).filter (fun k => !p k)) := by
          show _ = _
          rw [HNX.out, hp]; simp
        clear HNX hp
        go_wp2
        go_roundw
        case measure => simp [intOf]; omega
        case rel => exact ⟨k + 1, m, by omega, by simp, rfl, by omega, by show _ = _; rw [HN2.out]; exact HM.out, by show Thin _ _ _ _ _ _; rw [HN2.out]; exact HT2.out.skip, HG2.out⟩
      | false =>
        have HN2 : Hid ((ks.take (k + 1)).filter (fun k => !p k) = (ks.take k).filter (fun k => !p k) ++ [x]) := by
          show _ = _
          rw [HNX.out, hp]; simp
        have hat := HT2.out.at (Nat.le_refl _) HX.out
        obtain ⟨q0, q1, q2, q3, q4, q5, q6, q7⟩ := And.intro hat.c0 (And.intro hat.c1 (And.intro hat.c2 (And.intro hat.c3 (And.intro hat.c4 (And.intro hat.c5 (And.intro hat.c6 hat.c7))))))
        obtain ⟨cur, t1, t2, t3, t4⟩ := HT2.out.ex
        have HMP : Hid (Thin (((v2.alloc (.cells (ctC x).toArray 114))).setRow kb (cur.toList.take (m * 8) ++ ctC x ++ cur.toList.drop (m * 8 + (ctC x).length)).toArray) kb cap (k + 1) ks ((ks.take k).filter (fun k => !p k) ++ [x])) := by
          have := Thin.put (w := v2.alloc (.cells (ctC x).toArray 114)) (c := x) (fs := (ks.take k).filter (fun k => !p k)) (heap_alloc_old v2 _ (Array.getElem?_eq_some_iff.1 t1).1 |>.trans t1) t2 t3 t4 (by rw [← HM.out]; exact hmk) (by omega)
          rw [← HM.out] at this
          exact this
        have HG3 : Hid (w.grownBy (((v2.alloc (.cells (ctC x).toArray 114))).setRow kb (cur.toList.take (m * 8) ++ ctC x ++ cur.toList.drop (m * 8 + (ctC x).length)).toArray) (some kb)) :=
          grow_tr (grow_tr HG2.out (Bl.grown ((Below.refl _ _).alloc (Nat.le_refl _) _) _)) (setRow_grown _ _ _)
        have HT1 : Hid ((v2.alloc (.cells (ctC x).toArray 114)).heap[kb]? = some (.cells cur 114 (0, 0))) := (heap_alloc_old v2 _ (Array.getElem?_eq_some_iff.1 t1).1).trans t1
        have HFT : Hid (m * 8 + (ctC x).length ≤ cur.size) := by show _ ≤ _; rw [t2, ctC_len]; omega
        have HNW : Hid (∀ j u, (ctC x)[j]? = some u → (v2.alloc (.cells (ctC x).toArray 114)).cell? ((⟨v2.heap.size, 0, none⟩ : Addr).add j) = some u) := fun j u hu => by
          rw [add0, cell_new rfl, List.getElem?_toArray]; exact hu
        clear HNX hp t1 t2 t3 t4 hat HT2 HG2
        have tok : True := trivial
        go_wp2_with (have _t := tok; at_builtin; (refine wpList_append_rm _ rfl (.tmp 23) (.tmp 28) 83 rfl 114 ic 8 cutsU HI.out HSI.out kb m cap cur rfl HT1.out ⟨v2.heap.size, 0, none⟩ 1 1 (ctC x) rfl rfl HNW.out (one_ctC x) (by omega) HFT.out ?_; clear tok))
        rw [List.append_assoc] at HMP HG3
        go_roundw
        case measure => simp [intOf]; omega
        case rel => exact ⟨k + 1, m + 1, by omega, by simp, rfl, by omega, by show _ = _; rw [HN2.out, List.length_append, ← HM.out]; rfl, by show Thin _ _ _ _ _ _; rw [HN2.out]; exact HMP.out, HG3.out⟩
    · have hge : ¬ (k : Int) < (n : Int) := by omega
      have HAL : Hid ((ks.take k).filter (fun k => !p k) = fs) := by
        show _ = _
        rw [HFS.out, List.take_of_length_le (by have := En.out; omega)]
      have HM2 : Hid (m = fs.length) := by rw [← HAL.out]; exact HM.out
      have HOW : Hid (wr.ownsRow C 114 8 (.slice (some ⟨kb, 0, none⟩) m cap) m (flC fs)) := by
        have := HT.out.own hCk (by rw [← HM.out]; omega) hmx
        rw [HAL.out, ← HM2.out] at this
        exact this
      clear HT HM
      go_wp2
      go_ret
      exact ⟨m, HM2.out, rfl, HOW.out, HG.out⟩

set_option maxRecDepth 100000 in
set_option maxHeartbeats 8000000 in
theorem unbeaten_any (C : Nat) (w : World) (S : FnS) (Cs : List (List Ct)) (h : FinR w S Cs) (hl : FnLow C S) (hC : C ≤ w.heap.size) (hcs : HasC Cs) (bb bo : Nat) (c : Ct) (hc : CtAt w bb bo c) (lc : LvIn Cs.length c) (kv : Value) (ks : List Ct) (ho : w.ownsRow C 114 8 kv ks.length (flC ks)) (hbk : some bb ≠ kv.ownBlock) (lk : ∀ k, k ∈ ks → LvIn Cs.length k) (hn : ks.length ≤ 1000000) :
    Calls Try.prog 73 #[.pointer (some ⟨S.fb, 0, none⟩), kv, .pointer (some ⟨bb, bo, none⟩)] w fun e w' => ∃ v' : Value, e = .returned v' ∧ Hid (w'.ownsRow C 114 8 v' (ks.filter fun k => !beatsB (KOf Cs) c.lv k.lv).length (flC (ks.filter fun k => !beatsB (KOf Cs) c.lv k.lv))) ∧ Hid (w.grownBy w' kv.ownBlock) ∧ Hid (v'.ownBlock = kv.ownBlock) := by
  have ho' := ho
  rcases ho'.2 with ⟨rfl, h0⟩ | ⟨kb, cap, cur, rfl, _⟩
  · have e0 : ks = [] := List.eq_nil_of_length_eq_zero h0
    subst e0
    have RS : ∀ wx : World, (Instr.sliceAt 83 (.slice none 0 0) none (some (.int .i64 0)) none).run Try.prog wx = .ok (.slice none 0 0) wx := fun wx => cut_none wx
    have HO := hidden ho
    have hz : ¬ (0 : Int) < 0 := by omega
    generalize S.fb = fb at *
    clear h hl hC hcs hc lc ho ho' hbk lk hn h0
    go_enter Try.func73, Try.ntmps73
    go_wp2_with fail
    clear RS
    go_loopw [7, 13] (fun r' i' w' => r' = .slice none 0 0 ∧ i' = .int .i64 0 ∧ Hid (w' = w)) (fun _ _ _ => 0)
    case atStart => exact ⟨rfl, rfl, rfl⟩
    case round =>
      obtain ⟨rfl, rfl, HW⟩ := hrel
      obtain rfl := HW.out
      go_wp2
      go_ret
      exact ⟨_, rfl, HO.out, World.grownBy.refl _ _, rfl⟩
  · refine (unbeaten_some C w S Cs h hl hC hcs bb bo c hc lc kb cap ks ho (fun e => hbk (by rw [e]; rfl)) lk hn).mono ?_
    rintro e w' ⟨m, HM, rfl, HO, HG⟩
    exact ⟨_, rfl, by have := HO.out; rw [HM.out] at this ⊢; exact this, HG.out, rfl⟩
end Go.Proofs.Ytlaljeobdddegaa
