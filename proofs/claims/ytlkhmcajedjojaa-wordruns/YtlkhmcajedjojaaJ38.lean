import Derived.Test.YtlkhmcajedjojaaJ22
namespace Go.Proofs.Ytlkhmcajedjojaa
open Go.RowKit

theorem out_iff (d : NodeD) : nodeOut d ↔ ¬ (widthOk d.width = true ∧ mayOf d.kind (d.args.length : Int) = true) := by
  unfold nodeOut mayOf
  generalize d.args.length = n
  generalize wantOf d.kind = K
  cases widthOk d.width
  · simp
  · simp only [Bool.true_eq_false, false_or, true_and, decide_eq_true_eq]
    omega
theorem any_next {p : Int → Bool} {l : List Int} {k : Nat} (hk : k < l.length) : (l.take (k + 1)).any p = ((l.take k).any p || p (at0 l k)) := by
  rw [List.take_add_one, List.any_append, at0, List.getElem?_eq_getElem hk]; simp
theorem any_at {p : Int → Bool} {l : List Int} {k : Nat} (hk : k < l.length) (h : p (at0 l k) = true) : l.any p = true :=
  List.any_eq_true.2 ⟨_, List.mem_of_getElem? (at0_of hk), h⟩

set_option maxRecDepth 100000 in
set_option maxHeartbeats 8000000 in
theorem node_any (B : Nat) (w : World) (cb : Nat) (S : NetS) (N : NetD) (h : CkAt B w cb S N) (hB : B ≤ w.heap.size) (i : Nat) (d : NodeD) (hd : N.nodes[i]? = some d) (hp : Hid (∀ j y, j < i → N.nodes[j]? = some y → 1 ≤ y.width ∧ y.width ≤ 32)) :
    Calls Try.prog 13 #[ckV cb, .int .i64 i] w fun e w' => e = .returned (.bool (nodeOk N i d)) ∧ Below w.heap.size w w' := by
  obtain ⟨nb, no, ha, hlt, hc⟩ := h.net.n.el hd
  have hi : i < N.nodes.length := (List.getElem?_eq_some_iff.1 hd).1
  have hiI : (i : Int) < (N.nodes.length : Int) := by omega
  have hna := h.net.na d (List.mem_of_getElem? hd)
  have HD : Hid (NdAt B w N nb (no + i * 4) d) := ⟨hlt, hc, hna.1, hna.2.2.2, hna.2.1, hna.2.2.1⟩
  have c0 : w.cell? ⟨nb, no + i * 4, none⟩ = _ := hc 0 _ rfl
  have c1 := hc 1 _ rfl
  have c3 := hc 3 _ rfl
  have hb : nb < w.heap.size := Nat.lt_of_lt_of_le hlt hB
  have q1 : w.cell? ⟨cb, 1, none⟩ = some (.slice S.a1 N.nodes.length S.c1) := h.cells 1
  rw [ha] at q1
  have hcb : cb < w.heap.size := Nat.lt_of_lt_of_le h.lt hB
  have hlen : d.args.length < big := hna.2.2.2
  simp only [big] at hlen
  have WD : Hid (∀ w, Calls Try.prog 11 #[.int .i64 d.width] w fun e w' => e = .returned (.bool (widthOk d.width)) ∧ w' = w) := fun w => isWidth_any d.width w
  have MH : Hid (∀ w, Calls Try.prog 25 #[.int .i64 d.kind, .int .i64 d.args.length] w fun e w' => e = .returned (.bool (mayOf d.kind (d.args.length : Int))) ∧ w' = w) := fun w => mayHave_any d.kind _ w
  have HO := hidden (out_iff d)
  have HE : ¬ nodeOut d → Hid (nodeEnd N d = (numOf N d && fitW d.kind d.width (wsOf N d.args))) := fun ho => nodeEnd_eq N d (widthOf ho) HD.out.n0
  have HAR := hidden HD.out.args
  have NF0 : ¬ nodeOut d → (∀ a, a ∈ d.args → 0 ≤ a ∧ a < (i : Int)) → Hid (∀ w', Below w.heap.size w w' → Calls Try.prog 26 #[ckV cb, .pointer (some ⟨nb, no + i * 4, none⟩)] w' fun e w'' => e = .returned (.bool (numOf N d)) ∧ Below w'.heap.size w' w'') := by
    intro ho hin w' hw'
    refine numFits_any B w' cb S N (h.to (hw'.mono hB)) (Nat.le_trans hB hw'.size) nb _ d (HD.out.to (hw'.mono hB)) ho (fun a ha => ⟨(hin a ha).1, by have := (hin a ha).2; omega⟩) ?_
    intro x hx
    obtain ⟨a, ha, rfl⟩ := List.mem_map.1 hx
    have := hin a ha
    obtain ⟨y, hy⟩ : ∃ y, N.nodes[a.toNat]? = some y := ⟨N.nodes[a.toNat]'(by omega), List.getElem?_eq_getElem (by omega)⟩
    have e : widthAt N a = y.width := by unfold widthAt; rw [hy]; rfl
    rw [e]; exact hp.out a.toNat y (by omega) hy
  have WF0 : ¬ nodeOut d → (∀ a, a ∈ d.args → 0 ≤ a ∧ a < (i : Int)) → Hid (∀ w', Below w.heap.size w w' → Calls Try.prog 27 #[ckV cb, .pointer (some ⟨nb, no + i * 4, none⟩)] w' fun e w'' => e = .returned (.bool (fitW d.kind d.width (wsOf N d.args))) ∧ Below w'.heap.size w' w'') := by
    intro ho hin w' hw'
    refine widthsFit_any B w' cb S N (h.to (hw'.mono hB)) (Nat.le_trans hB hw'.size) nb _ d (HD.out.to (hw'.mono hB)) ho (fun a ha => ⟨(hin a ha).1, by have := (hin a ha).2; omega⟩) ?_
    intro x hx
    obtain ⟨a, ha, rfl⟩ := List.mem_map.1 hx
    have := hin a ha
    obtain ⟨y, hy⟩ : ∃ y, N.nodes[a.toNat]? = some y := ⟨N.nodes[a.toNat]'(by omega), List.getElem?_eq_getElem (by omega)⟩
    have e : widthAt N a = y.width := by unfold widthAt; rw [hy]; rfl
    rw [e]; exact hp.out a.toNat y (by omega) hy
  clear ha hc h hd hna hlt HD hp
  obtain ⟨r, HRr⟩ : ∃ r, Hid (nodeOk N i d = r) := ⟨_, rfl⟩
  have HR1 : nodeOut d → Hid (r = false) := fun ho => by show _ = _; rw [← HRr.out]; unfold nodeOk; rw [if_pos ho]
  have HR0 : ¬ nodeOut d → Hid (r = (if d.args.any (badArg i) then false else nodeEnd N d)) := fun ho => by show _ = _; rw [← HRr.out]; unfold nodeOk; rw [if_neg ho]
  rw [HRr.out]
  clear HRr
  have HO' : nodeOut d ↔ ¬ (widthOk d.width = true ∧ mayOf d.kind (d.args.length : Int) = true) := HO.out
  clear HO
  generalize widthOk d.width = wo at *
  generalize mayOf d.kind (d.args.length : Int) = mo at *
  unfold ckV at *
  have hcs : wo = false ∨ (wo = true ∧ mo = false) ∨ (wo = true ∧ mo = true) := by cases wo <;> cases mo <;> simp
  rcases hcs with rfl | ⟨rfl, rfl⟩ | ⟨rfl, rfl⟩
  · have e : r = false := (HR1 (HO'.2 (by simp))).out
    subst e
    clear HR1 HR0 HE NF0 WF0 HO' HAR
    go_enter Try.func13, Try.ntmps13
    go_wp2_with fail
    go_quiet (first | (go_at_call 11; exact Calls.quiet_of_same (WD.out _)) | (go_at_call 25; exact Calls.quiet_of_same (MH.out _)))
    go_wp2
    go_ret
    exact ⟨rfl, Below.drewN ((Below.refl _ _).alloc (Nat.le_refl _) _) _⟩
  · have e : r = false := (HR1 (HO'.2 (by simp))).out
    subst e
    clear HR1 HR0 HE NF0 WF0 HO' HAR
    go_enter Try.func13, Try.ntmps13
    go_wp2_with fail
    go_quiet (first | (go_at_call 11; exact Calls.quiet_of_same (WD.out _)) | (go_at_call 25; exact Calls.quiet_of_same (MH.out _)))
    go_wp2
    go_ret
    exact ⟨rfl, Below.drewN ((Below.refl _ _).alloc (Nat.le_refl _) _) _⟩
  · have hno : ¬ nodeOut d := fun hh => HO'.1 hh (by simp)
    have HR2 : Hid (r = (if d.args.any (badArg i) then false else (numOf N d && fitW d.kind d.width (wsOf N d.args)))) := by
      show _ = _
      rw [(HR0 hno).out, (HE hno).out]
    have NF1 := hidden (NF0 hno)
    have WF1 := hidden (WF0 hno)
    clear HR1 HR0 HE NF0 WF0 HO' hno
    generalize numOf N d = nu at *
    generalize fitW d.kind d.width (wsOf N d.args) = fi at *
    obtain ⟨kind, width, num, args, aa, ac⟩ := d
    simp only at *
    go_enter Try.func13, Try.ntmps13
    go_wp2_with fail
    generalize hW : w.alloc (.cells #[.pointer (some ⟨cb, 0, none⟩)] 37) = W
    have HB : Hid (Below w.heap.size w W) := by rw [← hW]; exact (Below.refl _ _).alloc (Nat.le_refl _) _
    have qx : W.cell? ⟨w.heap.size, 0, none⟩ = some (.pointer (some ⟨cb, 0, none⟩)) := by rw [← hW]; simp
    have hN : w.heap.size < W.heap.size := by rw [← hW]; simp
    clear hW

    have k0 := (HB.out.cell (p := ⟨nb, no + i * 4, none⟩) hb).trans c0
    have k1 := (HB.out.cell (p := ⟨nb, no + i * 4 + 1, none⟩) hb).trans c1
    have k3 := (HB.out.cell (p := ⟨nb, no + i * 4 + 3, none⟩) hb).trans c3
    go_quiet (first | (go_at_call 11; exact Calls.quiet_of_same (WD.out _)) | (go_at_call 25; exact Calls.quiet_of_same (MH.out _)))
    go_wp2_with fail
    generalize hV : World.drewN W _ = V
    have HV : Hid (Below W.heap.size W V) := by rw [← hV]; exact Below.drewN (Below.refl _ _) _
    have HBV : Hid (Below w.heap.size w V) := HB.out.trans (HV.out.mono HB.out.size)
    clear hV
    have hNV : w.heap.size < V.heap.size := Nat.lt_of_lt_of_le hN HV.out.size
    have px := (HV.out.cell (p := ⟨w.heap.size, 0, none⟩) hN).trans qx
    have HARV : Hid (RowAt B V aa 1 (args.map intC)) := HAR.out.to (HBV.out.mono hB)
    clear c0 c1 c3 k0 k1 k3 qx q1 WD MH HAR HB HV
    go_loopw [39] (fun i' w' => ∃ (k : Nat), k ≤ args.length ∧ i' = .int .i64 k ∧ Hid ((args.take k).any (badArg i) = false) ∧ w' = V) (fun i' _ => args.length - (intOf i').toNat)
    case atStart => exact ⟨0, Nat.zero_le _, rfl, by show _ = _; simp, rfl⟩
    case round =>
      obtain ⟨k, hk, rfl, HA, rfl⟩ := hrel
      by_cases hlt : k < args.length
      · obtain ⟨ab, ao, ea, hab, hac⟩ := HARV.out.int hlt
        have ca := hac k hlt
        have hltI : (k : Int) < (args.length : Int) := by omega
        have e2 : IntKind.i64.wrap ((k : Int) + 1) = (k : Int) + 1 := wrapI _ (by omega) (by omega)
        have HN : Hid ((args.take (k + 1)).any (badArg i) = ((args.take k).any (badArg i) || badArg i (at0 args k))) := any_next hlt
        have HBD : badArg i (at0 args k) = true → Hid (r = false) := fun hb => by show _ = _; rw [HR2.out, if_pos (any_at hlt hb)]
        rw [ea]
        generalize at0 args k = a at *
        clear ea hac
        by_cases g1 : a < 0
        · have e : r = false := (HBD (by unfold badArg; rw [decide_eq_true_iff]; exact .inl g1)).out
          subst e
          clear HBD HN
          go_wp2
          go_ret
          exact ⟨rfl, HBV.out⟩
        · by_cases g2 : (i : Int) ≤ a
          · have e : r = false := (HBD (by unfold badArg; rw [decide_eq_true_iff]; exact .inr g2)).out
            subst e
            clear HBD HN
            go_wp2
            go_ret
            exact ⟨rfl, HBV.out⟩
          · have HN2 : Hid ((args.take (k + 1)).any (badArg i) = false) := by
              show _ = _
              rw [HN.out, HA.out]; unfold badArg; simp; omega
            clear HBD HN HA
            go_wp2
            go_roundw
            case measure => simp [intOf]; omega
            case rel => exact ⟨k + 1, by omega, by simp, HN2.out, trivial⟩
      · have hge : ¬ ((k : Int) < (args.length : Int)) := by omega
        have HA2 : Hid (args.any (badArg i) = false) := by
          show _ = _
          have := HA.out
          rw [List.take_of_length_le (by omega)] at this
          exact this
        have hin : ∀ a, a ∈ args → 0 ≤ a ∧ a < (i : Int) := by
          intro a ha
          have := List.any_eq_false.1 HA2.out a ha
          unfold badArg at this
          simp at this
          omega
        have e : r = (nu && fi) := by rw [HR2.out, HA2.out]; rfl
        subst e
        have NF2 := hidden (NF1.out hin)
        have WF2 := hidden (WF1.out hin)
        clear HA HA2 hin HR2 NF1 WF1 HARV
        cases nu
        all_goals
          go_wp2_with (first | (go_at_call 26; refine (NF2.out.out _ HBV.out).mono ?_; rintro e w2 ⟨rfl, hb2⟩; have px2 := (hb2.cell (p := ⟨w.heap.size, 0, none⟩) hNV).trans px; have HB2 := hidden (HBV.out.trans (hb2.mono HBV.out.size)); clear hb2) | (go_at_call 27; refine (WF2.out.out _ HB2.out).mono ?_; rintro e w3 ⟨rfl, hb3⟩; have HB3 := hidden (HB2.out.trans (hb3.mono HB2.out.size)); clear hb3 HB2))
          go_ret
          first | exact ⟨rfl, HB3.out⟩ | exact ⟨rfl, HB2.out⟩

end Go.Proofs.Ytlkhmcajedjojaa
