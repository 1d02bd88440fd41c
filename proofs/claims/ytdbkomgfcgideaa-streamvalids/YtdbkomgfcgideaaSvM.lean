import Derived.Test.YtdbkomgfcgideaaSvL
namespace Go.Proofs.Ytdbkomgfcgideaa
open Go.RowKit Go.Shelf
attribute [local go_sem] Oper.semAt_some wide_fn wide_depth

set_option maxHeartbeats 4000000 in
theorem maker_fields (w : World) (p : Option Addr) :
    Calls Try.prog 9 #[.pointer p] w fun e w' => e = .returned (.func (.func 13) #[] #[.pointer (some ⟨w.heap.size, 0, none⟩)]) ∧ w' = w.alloc (.cells #[.pointer p] 33) := by
  go_enter Try.func9, Try.ntmps9
  go_wp2
  go_ret
  exact ⟨rfl, rfl⟩

set_option maxHeartbeats 4000000 in
theorem maker_shapeFields (w : World) (p : Option Addr) :
    Calls Try.prog 14 #[.pointer p] w fun e w' => e = .returned (.func (.func 18) #[] #[.pointer (some ⟨w.heap.size, 0, none⟩)]) ∧ w' = w.alloc (.cells #[.pointer p] 33) := by
  go_enter Try.func14, Try.ntmps14
  go_wp2
  go_ret
  exact ⟨rfl, rfl⟩

set_option maxHeartbeats 4000000 in
theorem maker_cellFields (w : World) (p : Option Addr) :
    Calls Try.prog 15 #[.pointer p] w fun e w' => e = .returned (.func (.func 19) #[] #[.pointer (some ⟨w.heap.size, 0, none⟩)]) ∧ w' = w.alloc (.cells #[.pointer p] 33) := by
  go_enter Try.func15, Try.ntmps15
  go_wp2
  go_ret
  exact ⟨rfl, rfl⟩

set_option maxHeartbeats 4000000 in
theorem maker_regFields (w : World) (p : Option Addr) :
    Calls Try.prog 16 #[.pointer p] w fun e w' => e = .returned (.func (.func 21) #[] #[.pointer (some ⟨w.heap.size, 0, none⟩)]) ∧ w' = w.alloc (.cells #[.pointer p] 33) := by
  go_enter Try.func16, Try.ntmps16
  go_wp2
  go_ret
  exact ⟨rfl, rfl⟩

set_option maxHeartbeats 4000000 in
theorem maker_outFields (w : World) (p : Option Addr) :
    Calls Try.prog 17 #[.pointer p] w fun e w' => e = .returned (.func (.func 23) #[] #[.pointer (some ⟨w.heap.size, 0, none⟩)]) ∧ w' = w.alloc (.cells #[.pointer p] 33) := by
  go_enter Try.func17, Try.ntmps17
  go_wp2
  go_ret
  exact ⟨rfl, rfl⟩

theorem new_cell (w : World) (v : Value) (t : TypeId) : (w.alloc (.cells #[v] t)).cell? ⟨w.heap.size, 0, none⟩ = some v := by simp
/-- marks of loops, the newest first -/
def Marks (D : Nat) (w : World) : List Deferred → Prop
  | [] => True
  | d :: ds => (∃ r, d = { target := .collected r, args := #[] } ∧ D ≤ r ∧ w.heap[r]? = some (.deferred (some [])) ∧ ∀ e ∈ ds, e.target ≠ .collected r) ∧ Marks D w ds
theorem Marks.to {D : Nat} {w w' : World} : ∀ {ds : List Deferred}, Marks D w ds → (∀ k o, D ≤ k → w.heap[k]? = some o → (∃ e ∈ ds, e.target = .collected k) → w'.heap[k]? = some o) → Marks D w' ds
  | [], _, _ => trivial
  | d :: ds, ⟨⟨r, h1, h2, h3, h4⟩, h5⟩, h => ⟨⟨r, h1, h2, h r _ h2 h3 ⟨d, List.mem_cons_self, by rw [h1]⟩, h4⟩, Marks.to h5 fun k o hk ho ⟨e, he, ht⟩ => h k o hk ho ⟨e, List.mem_cons_of_mem _ he, ht⟩⟩
theorem Marks.below {D : Nat} {w w' : World} {ds : List Deferred} (h : Marks D w ds) (hb : Below w.heap.size w w') : Marks D w' ds :=
  h.to fun k _ _ ho _ => (hb.block k (Array.getElem?_eq_some_iff.1 ho).1).trans ho
theorem Marks.lt {D : Nat} {w : World} : ∀ {ds : List Deferred}, Marks D w ds → ∀ e ∈ ds, ∀ k, e.target = .collected k → k < w.heap.size
  | d :: ds, ⟨⟨r, h1, _, h3, _⟩, h5⟩, e, he, k, hk => by
    rcases List.mem_cons.1 he with rfl | he
    · rw [h1] at hk; cases hk; exact (Array.getElem?_eq_some_iff.1 h3).1
    · exact Marks.lt h5 e he k hk
/-- a function without results leaves by its marks -/
theorem leaves_marks {P : Program} {F : Fence} {n : Nat} {fn : Func} {tmps : Array Value} {R : Ending → World → Prop} (hr : fn.results = #[]) {D : Nat} :
    ∀ {ds : List Deferred} {w : World}, Marks D w ds → (∀ w', Below D w w' → ∃ v, (results fn tmps).run P w' = .ok v w' ∧ R (.returned v) w') → LeavesInM F n P fn tmps R ds .returning w
  | [], w, _, h => h w (Below.refl _ _)
  | d :: ds, w, ⟨⟨r, h1, h2, h3, h4⟩, h5⟩, h => by
    refine ⟨by simp, .inl ⟨r, _, by rw [h1], run_takeDeferred h3, ?_⟩⟩
    refine leaves_marks hr (h5.to fun k _ _ ho ⟨e, he, ht⟩ => (World.putObj_heap_other (fun ek => h4 e he (by rw [ht, ek]))).trans ho) (fun w' hw' => h w' ((putObj_below (Below.refl _ _) h2 _).trans hw'))

/-- the numbers of a configuration, as they are gone through -/
def partsL (N : CnD) : List (List (Int × Int)) := [shL N, celL N, regL N, outL N]
def fieldsL (N : CnD) : List (Int × Int) := shL N ++ celL N ++ regL N ++ outL N
/-- a part: the closure that goes through it, and its numbers -/
structure PtD where
  gf : Nat
  lb : Array Value
  L : List (Int × Int)
theorem ItC.to {P : Program} {gf : Nat} {lb : Array Value} {L : List (Int × Int)} {w w' : World} (h : ItC P gf lb L w) (hb : Below w.heap.size w w') : ItC P gf lb L w' :=
  fun V0 l st V m h0 => h V0 l st V m (hb.trans (h0.mono hb.size))

set_option maxRecDepth 100000 in
set_option maxHeartbeats 16000000 in
theorem fields_it (B : Nat) (w0 : World) (S : CnS) (N : CnD) (bx pc : Nat) (hbx : bx < w0.heap.size) (hB : B ≤ w0.heap.size) (h : CnAt B w0 S N) (hf : N.sh.fits) (hp : BoxAt w0 pc S N)
    (hc : w0.cell? ⟨bx, 0, none⟩ = some (.pointer (some ⟨pc, 0, none⟩))) : ItC Try.prog 13 #[.pointer (some ⟨bx, 0, none⟩)] (fieldsL N) w0 := by
  intro V0 l st V m hb0 hy hb1
  have HY := hidden hy
  have HN0 := hidden hb0
  have HB1 := hidden hb1
  have HH := hidden h
  have HP := hidden hp
  have HC := hidden hc
  clear h hp hc hy hb0 hb1
  refine callsIn_of_wp_marks Try.func13 rfl trivial ?_ rfl
  simp only [Try.ntmps13, List.size_toArray, List.length_cons, List.length_nil, Nat.reduceAdd, Nat.reduceSub, Array.replicate_succ, Array.replicate_zero, List.push_toArray, List.append_toArray, List.nil_append, List.cons_append]
  have up : Hid (∀ {W}, Below V0.heap.size V0 W → Below w0.heap.size w0 W) := fun {W} hW => HN0.out.trans (hW.mono HN0.out.size)
  gi_wp2
  generalize hX0 : World.alloc V _ = X0
  have HBx : Hid (Below V0.heap.size V0 X0) := by rw [← hX0]; exact HB1.out.alloc HB1.out.size _
  have HYB : Hid (X0.cell? ⟨V.heap.size, 0, none⟩ = some (.func (.yield l) #[] #[])) := by show _ = _; rw [← hX0]; simp
  have hyl : V.heap.size < X0.heap.size := by rw [← hX0]; simp
  have hVy : V0.heap.size ≤ V.heap.size := HB1.out.size
  clear hX0
  generalize V.heap.size = yb at *
  have KC : Hid (∀ w', Below X0.heap.size X0 w' → w'.cell? ⟨bx, 0, none⟩ = some (.pointer (some ⟨pc, 0, none⟩))) := fun w' hb => ((up.out (HBx.out.trans (hb.mono HBx.out.size))).cell (p := ⟨bx, 0, none⟩) hbx).trans HC.out
  have HBy : Hid (Below X0.heap.size X0 X0) := Below.refl _ _
  refine wpIn_wide.2 ?_
  refine wp_region_noPanic ?_
  refine wp_region_held_drew (S := (fun w' => w'.cell? ⟨bx, 0, none⟩ = some (.pointer (some ⟨pc, 0, none⟩)))) (by kernel_rfl) (by first | assumption | exact KC.out _ (by assumption) | exact KC.out _ (Below.drew (by assumption)) | exact KC.out _ (Below.drew (Below.refl _ _)) | exact KC.out _ HBy.out | exact KC.out _ (hb4.alloc hb4.size _)) (fun hHeld => ?_)
  refine wpAnyH_take (i := 0) (oi := _) (v := ?_) rfl (by kernel_rfl) (by kernel_rfl) (by kernel_rfl) (fun _ _ _ h => h) (Or.inl ⟨by rfl, ?_⟩) (by assumption) ?_
  rotate_left
  · (intro w0 hSw; (try dsimp only at hSw); (try simp only [List.getElem_toArray, List.getElem_cons_zero]); go_simp; try (with_reducible rfl))
  try simp only [Act.put, List.getElem_toArray, List.getElem_cons_zero, List.setIfInBounds_toArray, List.set_cons_zero, List.set_cons_succ]
  refine wpAnyH_take (i := 2) (oi := _) (v := ?_) rfl (by kernel_rfl) (by kernel_rfl) (by kernel_rfl) (fun _ _ _ h => h) (Or.inl ⟨by rfl, ?_⟩) (by assumption) ?_
  rotate_left
  · (intro w0 hSw; (try dsimp only at hSw); (try simp only [List.getElem_toArray, List.getElem_cons_zero, List.getElem_cons_succ]); go_simp; try (with_reducible rfl))
  try simp only [Act.put, List.getElem_toArray, List.getElem_cons_zero, List.getElem_cons_succ, List.setIfInBounds_toArray, List.set_cons_zero, List.set_cons_succ]
  refine wpAnyH_take (i := 4) (oi := _) (v := ?_) rfl (by kernel_rfl) (by kernel_rfl) (by kernel_rfl) (fun _ _ _ h => h) (Or.inl ⟨by rfl, ?_⟩) (by assumption) ?_
  rotate_left
  · (intro w0 hSw; (try dsimp only at hSw); (try simp only [List.getElem_toArray, List.getElem_cons_zero, List.getElem_cons_succ]); go_simp; try (with_reducible rfl))
  try simp only [Act.put, List.getElem_toArray, List.getElem_cons_zero, List.getElem_cons_succ, List.setIfInBounds_toArray, List.set_cons_zero, List.set_cons_succ]
  refine wpAnyH_take (i := 6) (oi := _) (v := ?_) rfl (by kernel_rfl) (by kernel_rfl) (by kernel_rfl) (fun _ _ _ h => h) (Or.inl ⟨by rfl, ?_⟩) (by assumption) ?_
  rotate_left
  · (intro w0 hSw; (try dsimp only at hSw); (try simp only [List.getElem_toArray, List.getElem_cons_zero, List.getElem_cons_succ]); go_simp; try (with_reducible rfl))
  try simp only [Act.put, List.getElem_toArray, List.getElem_cons_zero, List.getElem_cons_succ, List.setIfInBounds_toArray, List.set_cons_zero, List.set_cons_succ]
  refine wpAnyH_take (i := 10) (oi := _) (v := ?_) rfl (by kernel_rfl) (by kernel_rfl) (by kernel_rfl) (fun _ _ _ h => h) (Or.inl ⟨by rfl, ?_⟩) (by assumption) ?_
  rotate_left
  · (intro w0 hSw; (try dsimp only at hSw); (try simp only [List.getElem_toArray, List.getElem_cons_zero, List.getElem_cons_succ]); go_simp; try (with_reducible rfl))
  try simp only [Act.put, List.getElem_toArray, List.getElem_cons_zero, List.getElem_cons_succ, List.setIfInBounds_toArray, List.set_cons_zero, List.set_cons_succ]
  refine wpAnyH_ready (rs := [1]) (by kernel_rfl) (by simp) ?_
  refine AllReadyH.cons (o := _) rfl (fun K hK => ?_) AllReadyH.nil
  (try simp only [List.getElem_toArray, List.getElem_cons_zero, List.getElem_cons_succ])
  go_simp
  go_at_call 14
  refine (maker_shapeFields _ _).mono ?_
  rintro e v1 ⟨rfl, h1⟩
  have HV1 := hidden h1
  clear h1
  have hb1 : Below X0.heap.size X0 v1 := by rw [HV1.out]; exact (Below.drew (Below.refl _ _)).alloc (Nat.le_refl _) _
  go_wp2_with fail
  refine hK.out _ _ (by first | assumption | exact KC.out _ (by assumption) | exact KC.out _ (Below.drew (by assumption)) | exact KC.out _ (Below.drew (Below.refl _ _)) | exact KC.out _ HBy.out | exact KC.out _ (hb4.alloc hb4.size _)) (fun hHeld1 => ?_)
  clear hK K
  try simp only [Act.put, List.setIfInBounds_toArray, List.set_cons_zero, List.set_cons_succ]
  refine wpAnyH_ready (rs := [3]) (by kernel_rfl) (by simp) ?_
  refine AllReadyH.cons (o := _) rfl (fun K hK => ?_) AllReadyH.nil
  (try simp only [List.getElem_toArray, List.getElem_cons_zero, List.getElem_cons_succ])
  go_simp
  go_at_call 15
  refine (maker_cellFields _ _).mono ?_
  rintro e v2 ⟨rfl, h2⟩
  have HV2 := hidden h2
  clear h2
  have hb2 : Below X0.heap.size X0 v2 := by rw [HV2.out]; exact (hb1).alloc (hb1.size) _
  go_wp2_with fail
  refine hK.out _ _ (by first | assumption | exact KC.out _ (by assumption) | exact KC.out _ (Below.drew (by assumption)) | exact KC.out _ (Below.drew (Below.refl _ _)) | exact KC.out _ HBy.out | exact KC.out _ (hb4.alloc hb4.size _)) (fun hHeld2 => ?_)
  clear hK K
  try simp only [Act.put, List.setIfInBounds_toArray, List.set_cons_zero, List.set_cons_succ]
  refine wpAnyH_ready (rs := [5]) (by kernel_rfl) (by simp) ?_
  refine AllReadyH.cons (o := _) rfl (fun K hK => ?_) AllReadyH.nil
  (try simp only [List.getElem_toArray, List.getElem_cons_zero, List.getElem_cons_succ])
  go_simp
  go_at_call 16
  refine (maker_regFields _ _).mono ?_
  rintro e v3 ⟨rfl, h3⟩
  have HV3 := hidden h3
  clear h3
  have hb3 : Below X0.heap.size X0 v3 := by rw [HV3.out]; exact (hb2).alloc (hb2.size) _
  go_wp2_with fail
  refine hK.out _ _ (by first | assumption | exact KC.out _ (by assumption) | exact KC.out _ (Below.drew (by assumption)) | exact KC.out _ (Below.drew (Below.refl _ _)) | exact KC.out _ HBy.out | exact KC.out _ (hb4.alloc hb4.size _)) (fun hHeld3 => ?_)
  clear hK K
  try simp only [Act.put, List.setIfInBounds_toArray, List.set_cons_zero, List.set_cons_succ]
  refine wpAnyH_ready (rs := [7]) (by kernel_rfl) (by simp) ?_
  refine AllReadyH.cons (o := _) rfl (fun K hK => ?_) AllReadyH.nil
  (try simp only [List.getElem_toArray, List.getElem_cons_zero, List.getElem_cons_succ])
  go_simp
  go_at_call 17
  refine (maker_outFields _ _).mono ?_
  rintro e v4 ⟨rfl, h4⟩
  have HV4 := hidden h4
  clear h4
  have hb4 : Below X0.heap.size X0 v4 := by rw [HV4.out]; exact (hb3).alloc (hb3.size) _
  go_wp2_with fail
  refine hK.out _ _ (by first | assumption | exact KC.out _ (by assumption) | exact KC.out _ (Below.drew (by assumption)) | exact KC.out _ (Below.drew (Below.refl _ _)) | exact KC.out _ HBy.out | exact KC.out _ (hb4.alloc hb4.size _)) (fun hHeld4 => ?_)
  clear hK K
  try simp only [Act.put, List.setIfInBounds_toArray, List.set_cons_zero, List.set_cons_succ]
  refine wpAnyH_ready (rs := [8]) (by kernel_rfl) (by simp) ?_
  refine AllReadyH.cons (o := _) rfl (fun K hK => ?_) AllReadyH.nil
  (try simp only [List.getElem_toArray, List.getElem_cons_zero, List.getElem_cons_succ])
  go_simp
  skip
  go_wp2_with fail
  refine hK.out _ _ (by first | assumption | exact KC.out _ (by assumption) | exact KC.out _ (Below.drew (by assumption)) | exact KC.out _ (Below.drew (Below.refl _ _)) | exact KC.out _ HBy.out | exact KC.out _ (hb4.alloc hb4.size _)) (fun hHeld5 => ?_)
  clear hK K
  try simp only [Act.put, List.setIfInBounds_toArray, List.set_cons_zero, List.set_cons_succ]
  refine wpAnyH_take (i := 9) (oi := _) (v := ?_) rfl (by kernel_rfl) (by kernel_rfl) (by kernel_rfl) (fun _ _ _ h => h) (Or.inl ⟨by rfl, ?_⟩) (by assumption) ?_
  rotate_left
  · (intro w0 hSw; (try dsimp only at hSw); (try simp only [List.getElem_toArray, List.getElem_cons_zero, List.getElem_cons_succ]); go_simp; try (with_reducible rfl))
  try simp only [Act.put, List.getElem_toArray, List.getElem_cons_zero, List.getElem_cons_succ, List.setIfInBounds_toArray, List.set_cons_zero, List.set_cons_succ]
  refine wpAnyH_done (by kernel_rfl) ?_ _
  refine NoPanic.normal ?_
  generalize hX : World.alloc v4 _ = X
  have c1 : v1.cell? ⟨X0.heap.size, 0, none⟩ = some (.pointer (some ⟨pc, 0, none⟩)) := by rw [HV1.out]; exact new_cell X0.drew _ _
  have c2 : v2.cell? ⟨v1.heap.size, 0, none⟩ = some (.pointer (some ⟨pc, 0, none⟩)) := by rw [HV2.out]; simp
  have c3 : v3.cell? ⟨v2.heap.size, 0, none⟩ = some (.pointer (some ⟨pc, 0, none⟩)) := by rw [HV3.out]; simp
  have c4 : v4.cell? ⟨v3.heap.size, 0, none⟩ = some (.pointer (some ⟨pc, 0, none⟩)) := by rw [HV4.out]; simp
  have b12 : Below v1.heap.size v1 v2 := by rw [HV2.out]; exact (Below.refl _ _).alloc (Nat.le_refl _) _
  have b23 : Below v2.heap.size v2 v3 := by rw [HV3.out]; exact (Below.refl _ _).alloc (Nat.le_refl _) _
  have b34 : Below v3.heap.size v3 v4 := by rw [HV4.out]; exact (Below.refl _ _).alloc (Nat.le_refl _) _
  have b4X : Below v4.heap.size v4 X := by rw [← hX]; exact (Below.refl _ _).alloc (Nat.le_refl _) _
  have b3X : Below v3.heap.size v3 X := b34.trans (b4X.mono b34.size)
  have b2X : Below v2.heap.size v2 X := b23.trans (b3X.mono b23.size)
  have b1X : Below v1.heap.size v1 X := b12.trans (b2X.mono b12.size)
  have hBX : Below X0.heap.size X0 X := hb1.trans (b1X.mono hb1.size)
  have l1 : X0.heap.size < v1.heap.size := by rw [HV1.out]; simp
  have l2 : v1.heap.size < v2.heap.size := by rw [HV2.out]; simp
  have l3 : v2.heap.size < v3.heap.size := by rw [HV3.out]; simp
  have l4 : v3.heap.size < v4.heap.size := by rw [HV4.out]; simp
  have l5 : v4.heap.size < X.heap.size := by rw [← hX]; simp
  have hup : Below w0.heap.size w0 X := up.out (HBx.out.trans (hBX.mono HBx.out.size))
  have hBX' : B ≤ X.heap.size := Nat.le_trans hB hup.size
  have hAX : CnAt B X S N := HH.out.to (hup.mono hB)
  have hPX : BoxAt X pc S N := HP.out.to HP.out.lt hup
  obtain ⟨parts, HPT⟩ : ∃ parts : List PtD, Hid (parts = [⟨18, #[.pointer (some ⟨X0.heap.size, 0, none⟩)], shL N⟩, ⟨19, #[.pointer (some ⟨v1.heap.size, 0, none⟩)], celL N⟩, ⟨21, #[.pointer (some ⟨v2.heap.size, 0, none⟩)], regL N⟩, ⟨23, #[.pointer (some ⟨v3.heap.size, 0, none⟩)], outL N⟩]) := ⟨_, rfl⟩
  have HAT : Hid (∀ i x, parts[i]? = some x → X.cell? ⟨v4.heap.size, i, none⟩ = some (.func (.func x.gf) #[] x.lb) ∧ ItC Try.prog x.gf x.lb x.L X ∧ ∀ args w, (callFunc x.gf args).run Try.prog w = .ok (.enter x.gf args) w) := fun i x hx => by
    rw [HPT.out] at hx
    have hi : i < 4 := by simpa using (List.getElem?_eq_some_iff.1 hx).1
    rcases (show i = 0 ∨ i = 1 ∨ i = 2 ∨ i = 3 by omega) with rfl | rfl | rfl | rfl
    · simp only [List.getElem?_cons_zero, Option.some.injEq] at hx
      subst hx
      exact ⟨by rw [← hX]; simp, shapeFields_it B X S N _ pc (by omega) hBX' hAX hf hPX ((b1X.cell (p := ⟨X0.heap.size, 0, none⟩) l1).trans c1), enters_of Try.func18 (by kernel_rfl) rfl⟩
    · simp only [List.getElem?_cons_zero, List.getElem?_cons_succ, Option.some.injEq] at hx
      subst hx
      exact ⟨by rw [← hX]; simp, cellFields_it B X S N _ pc (by omega) hBX' hAX hf hPX ((b2X.cell (p := ⟨v1.heap.size, 0, none⟩) l2).trans c2), enters_of Try.func19 (by kernel_rfl) rfl⟩
    · simp only [List.getElem?_cons_zero, List.getElem?_cons_succ, Option.some.injEq] at hx
      subst hx
      exact ⟨by rw [← hX]; simp, regFields_it B X S N _ pc (by omega) hBX' hAX hf hPX ((b3X.cell (p := ⟨v2.heap.size, 0, none⟩) l3).trans c3), enters_of Try.func21 (by kernel_rfl) rfl⟩
    · simp only [List.getElem?_cons_zero, List.getElem?_cons_succ, Option.some.injEq] at hx
      subst hx
      exact ⟨by rw [← hX]; simp, outFields_it B X S N _ pc (by omega) hBX' hAX hf hPX ((b4X.cell (p := ⟨v3.heap.size, 0, none⟩) l4).trans c4), enters_of Try.func23 (by kernel_rfl) rfl⟩
  have HLN : Hid (parts.length = 4) := by show _ = _; rw [HPT.out]; rfl
  have HFL : Hid (parts.flatMap PtD.L = fieldsL N) := by
    show _ = _
    rw [HPT.out]; simp [fieldsL]
  have HBX := hidden hBX
  have hyX : yb < X.heap.size := Nat.lt_of_lt_of_le hyl hBX.size
  have HYX : Hid (X.cell? ⟨yb, 0, none⟩ = some (.func (.yield l) #[] #[])) := (hBX.cell (p := ⟨yb, 0, none⟩) hyl).trans HYB.out
  have hVX : V0.heap.size ≤ X.heap.size := Nat.le_trans HBx.out.size hBX.size
  have HVX : Hid (∀ {W}, Below X.heap.size X W → Below V0.heap.size V0 W) := fun {W} h => HBx.out.trans ((HBX.out.mono HBx.out.size).trans (h.mono hVX))
  clear hX c1 c2 c3 c4 b12 b23 b34 b4X b3X b2X b1X hBX hup hBX' hAX hPX HPT hb1 hb2 hb3 hb4 HV1 HV2 HV3 HV4
  have har : v4.heap.size < X.heap.size := l5
  clear l1 l2 l3 l4 l5 HYB KC HBy hyl hVy
  generalize v4.heap.size = ar at *
  obtain ⟨F1, hF1⟩ : ∃ F, F = Value.func (.func 18) #[] #[.pointer (some ⟨X0.heap.size, 0, none⟩)] := ⟨_, rfl⟩
  obtain ⟨F2, hF2⟩ : ∃ F, F = Value.func (.func 19) #[] #[.pointer (some ⟨v1.heap.size, 0, none⟩)] := ⟨_, rfl⟩
  obtain ⟨F3, hF3⟩ : ∃ F, F = Value.func (.func 21) #[] #[.pointer (some ⟨v2.heap.size, 0, none⟩)] := ⟨_, rfl⟩
  obtain ⟨F4, hF4⟩ : ∃ F, F = Value.func (.func 23) #[] #[.pointer (some ⟨v3.heap.size, 0, none⟩)] := ⟨_, rfl⟩
  rw [← hF1, ← hF2, ← hF3, ← hF4]
  clear hF1 hF2 hF3 hF4
  gi_wp2
  refine wpIn_loop (fun a w => ∃ (k : Nat) (ds : List Deferred) (u4 u18 u19 u20 u21 u29 : Value), k ≤ 4 ∧ a = { tmps := #[.func (.yield l) #[] #[], .pointer (some ⟨bx, 0, none⟩), .pointer (some ⟨yb, 0, none⟩), undef, u4, undef, undef, .pointer (some ⟨pc, 0, none⟩), F1, .pointer (some ⟨pc, 0, none⟩), F2, .pointer (some ⟨pc, 0, none⟩), F3, .pointer (some ⟨pc, 0, none⟩), F4, .slice (some ⟨ar, 0, none⟩) 4 4, .int .i64 4, .int .i64 k, u18, u19, u20, u21, undef, undef, undef, undef, undef, undef, undef, u29], defers := ds } ∧ Hid (Marks X.heap.size w ds) ∧ Hid (Below X.heap.size X w) ∧ Hid (okPs ((parts.take k).flatMap PtD.L) = true)) (fun a _ => 4 - (intOf (a.tmps.getD 17 undef)).toNat) ?_ ?_
  · exact ⟨0, [], undef, undef, undef, undef, undef, undef, by omega, rfl, trivial, Below.refl _ _, rfl⟩
  · rintro a w ⟨k, ds, u4, u18, u19, u20, u21, u29, hk, rfl, HM, HB, HA⟩
    by_cases hlt : k < 4
    · have hltI : (k : Int) < 4 := by omega
      have e2 : IntKind.i64.wrap ((k : Int) + 1) = (k : Int) + 1 := wrapI _ (by omega) (by omega)
      obtain ⟨x, hx⟩ := getElem_lt (show k < parts.length by rw [HLN.out]; exact hlt)
      obtain ⟨cx, itx, egx⟩ := HAT.out k x hx
      have HX := hidden hx
      obtain ⟨gf, lb, L⟩ := x
      dsimp only at cx itx egx
      have cw : w.cell? ⟨ar, k, none⟩ = some (.func (.func gf) #[] lb) := (HB.out.cell (p := ⟨ar, k, none⟩) har).trans cx
      clear hx cx
      gi_wp2
      refine rangeV (gf := gf) (lb := lb) rfl egx rfl L (itx.to HB.out) st (fun V hV => HY.out.sz V (HVX.out (HB.out.trans (hV.mono HB.out.size)))) (fun V hV j hj => HY.out.kp V (HVX.out (HB.out.trans (hV.mono HB.out.size))) j (Nat.le_trans hVX (Nat.le_trans HB.out.size hj))) (fun n c => { tmps := #[.func (.yield l) #[] #[], .pointer (some ⟨bx, 0, none⟩), .pointer (some ⟨yb, 0, none⟩), undef, .func (.func gf) #[] lb, .int .i64 n, .int .i64 c, .pointer (some ⟨pc, 0, none⟩), F1, .pointer (some ⟨pc, 0, none⟩), F2, .pointer (some ⟨pc, 0, none⟩), F3, .pointer (some ⟨pc, 0, none⟩), F4, .slice (some ⟨ar, 0, none⟩) 4 4, .int .i64 4, .int .i64 k, .bool true, .pointer (some ⟨ar, k, none⟩), .func (.func gf) #[] lb, .func (.func gf) #[] lb, .int .i64 n, .int .i64 c, undef, undef, undef, undef, undef, u29], defers := [] }) ?assign ?go ?no ?done ?stop
      case assign =>
        intro l' n c W m K hK
        gi_wp2
        exact hK
      case go =>
        intro l' n c W m hW ho
        have hWX : Below X.heap.size X W := HB.out.trans (hW.mono HB.out.size)
        have cy : W.cell? ⟨yb, 0, none⟩ = some (.func (.yield l) #[] #[]) := (hWX.cell (p := ⟨yb, 0, none⟩) hyX).trans HYX.out
        obtain ⟨fn, tmps, assign, body, hy, hR⟩ := HY.out.go W n c (m - 1) (HVX.out hWX) ho
        clear hWX hW
        gi_wp2
        refine RoundIn.mono hR ?_
        clear hR hy
        rintro e W1 ⟨rfl, rfl⟩
        gi_wp2
      case no =>
        intro l' n c W m hW ho
        have hWX : Below X.heap.size X W := HB.out.trans (hW.mono HB.out.size)
        have cy : W.cell? ⟨yb, 0, none⟩ = some (.func (.yield l) #[] #[]) := (hWX.cell (p := ⟨yb, 0, none⟩) hyX).trans HYX.out
        obtain ⟨fn, tmps, assign, body, hy, hR⟩ := HY.out.no W n c (m - 1) (HVX.out hWX) ho
        clear hWX hW
        gi_wp2
        refine RoundIn.mono hR ?_
        clear hR hy
        rintro e W1 ⟨rfl, h1⟩
        have HW1 := hidden h1
        clear h1
        gi_wp2
        exact HW1.out
      case done =>
        intro ho W hW hD
        have HN1 := hidden (show okPs ((parts.take (k + 1)).flatMap PtD.L) = true by rw [okPs_ftake _ _ k _ HX.out, HA.out]; exact ho)
        have HW := hidden hW
        have HD := hidden hD
        clear hW hD
        gi_wp2
        refine ⟨⟨k + 1, _, _, _, _, _, _, _, by omega, rfl, ⟨⟨w.heap.size, rfl, HB.out.size, HD.out, fun e he ht => by have := HM.out.lt e he _ ht; omega⟩, HM.out.below HW.out⟩, HB.out.trans (HW.out.mono HB.out.size), HN1.out⟩, ?_⟩
        simp [intOf]
        omega
      case stop =>
        intro ho U W hU hW hD
        have HF := hidden (show okPs (fieldsL N) = false by rw [← HFL.out]; exact okPs_fno _ _ _ (List.mem_of_getElem? HX.out) ho)
        have hUV : Below V0.heap.size V0 U := HVX.out (HB.out.trans (hU.mono HB.out.size))
        have hmk : Marks X.heap.size W ({ target := .collected w.heap.size, args := #[] } :: ds) := by
          refine ⟨⟨w.heap.size, rfl, HB.out.size, hD, fun e he ht => by have := HM.out.lt e he _ ht; omega⟩, HM.out.to fun j o hj ho' ⟨e, he, ht⟩ => ?_⟩
          have hjl := (Array.getElem?_eq_some_iff.1 ho').1
          exact (hW.block j hjl).trans ((HY.out.kp U hUV j (Nat.le_trans hVX hj)).trans ((hU.block j hjl).trans ho'))
        have HW := hidden hW
        clear hW hU hD
        gi_wp2
        refine leaves_marks rfl hmk (fun w' hw' => ⟨_, results_none rfl _ _ _, ⟨_, rfl⟩, U, hUV, .inr ⟨HF.out, ?_⟩⟩)
        exact (HW.out.mono (Nat.le_trans hVX HB.out.size)).trans (hw'.mono hVX)
    · have hge : ¬ ((k : Int) < 4) := by omega
      have HT : Hid (okPs (fieldsL N) = true) := by
        have := HA.out
        rw [List.take_of_length_le (by rw [HLN.out]; omega), HFL.out] at this
        exact this
      gi_wp2
      refine leaves_marks rfl HM.out (fun w' hw' => ⟨_, results_none rfl _ _ _, ⟨_, rfl⟩, w', ?_, .inl ⟨HT.out, rfl⟩⟩)
      exact HVX.out (HB.out.trans hw')

end Go.Proofs.Ytdbkomgfcgideaa
