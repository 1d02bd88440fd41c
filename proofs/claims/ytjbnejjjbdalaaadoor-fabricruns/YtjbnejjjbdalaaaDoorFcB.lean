import Derived.Test.YtjbnejjjbdalaaaDoorFcA
import Derived.StillTailTactics
import Derived.Lib.AppendStr
namespace Go.Proofs.YtjbnejjjbdalaaaDoor
open Go.RowKit

theorem own_blk_ne {w : World} {B sb n m cap g : Nat} {t e : TypeId} {arr : Array Value} {xs : List Value} (h : Blk w sb t arr) (ho : w.ownsRow B e 1 (.slice (some ⟨g, 0, none⟩) m cap) n xs) (hne : t ≠ e) : g ≠ sb := by
  rcases ho.2 with ⟨h', _⟩ | ⟨g', cap', cur, h', _, hh, _⟩
  · cases h'
  · have eg : g' = g := by cases h'; rfl
    subst eg
    intro e2
    subst e2
    have h1 : w.heap[g']? = some (.cells arr t (0, 0)) := h
    rw [h1] at hh
    simp at hh
    exact hne hh.2
/-- all but a stream and its bytes stands as it did -/
structure Pz (base sb : Nat) (w w' : World) : Prop where
  os : w'.os = w.os
  tape : w'.tape = w.tape
  output : w'.output = w.output
  size : w.heap.size ≤ w'.heap.size
  low : ∀ k, k < base → w'.heap[k]? = w.heap[k]?
  typ : ∀ (k : Nat) (t : TypeId) (arr : Array Value), t ≠ 5 → k ≠ sb → Blk w k t arr → Blk w' k t arr
theorem Pz.refl (base sb : Nat) (w : World) : Pz base sb w w := ⟨rfl, rfl, rfl, Nat.le_refl _, fun _ _ => rfl, fun _ _ _ _ _ h => h⟩
theorem Pz.trans {base sb : Nat} {a b c : World} (h : Pz base sb a b) (k : Pz base sb b c) : Pz base sb a c :=
  ⟨k.os.trans h.os, k.tape.trans h.tape, k.output.trans h.output, Nat.le_trans h.size k.size, fun i hi => (k.low i hi).trans (h.low i hi), fun i t arr h1 h2 h3 => k.typ i t arr h1 h2 (h.typ i t arr h1 h2 h3)⟩
theorem Pz.below {base sb : Nat} {a b : World} (h : Pz base sb a b) : Below base a b := ⟨h.os, h.tape, h.output, h.size, h.low⟩
theorem Pz.set {base sb i : Nat} (w : World) (v : Value) (hb : base ≤ sb) : Pz base sb w (w.setCell ⟨sb, i, none⟩ v) :=
  have h := But.set sb i w v
  ⟨h.os, h.tape, h.output, h.size, fun k hk => Below.heap_setCell _ _ _ k (by show k ≠ sb; omega), fun _ _ _ _ h2 h3 => h.blk h3 h2⟩
theorem Pz.drewN {base sb : Nat} {a w : World} (h : Pz base sb a w) (n : Nat) : Pz base sb a (w.drewN n) := ⟨h.os, h.tape, h.output, h.size, h.low, h.typ⟩
theorem Pz.alloc {base sb : Nat} {a w : World} (h : Pz base sb a w) (o : Obj) (hs : base ≤ w.heap.size) : Pz base sb a (w.alloc o) :=
  have hb : Below w.heap.size w (w.alloc o) := (Below.refl _ _).alloc (Nat.le_refl _) _
  h.trans ⟨hb.os, hb.tape, hb.output, hb.size, fun k hk => hb.block k (by omega), fun _ _ _ _ _ h3 => h3.below hb⟩
/-- whose block a row is -/
def RowTy (w : World) (base : Nat) (e : TypeId) (v : Value) : Prop := ∀ k, v.ownBlock = some k → base ≤ k ∧ ∃ arr fz, w.heap[k]? = some (.cells arr e fz)
theorem RowTy.of {w : World} {base n : Nat} {e : TypeId} {v : Value} {xs : List Value} (ho : w.ownsRow base e 1 v n xs) : RowTy w base e v := by
  intro k hk
  rcases ho.2 with ⟨h', _⟩ | ⟨g', cap', cur, h', hb, hh, _⟩
  · rw [h'] at hk; cases hk
  · rw [h'] at hk
    have eg : g' = k := by cases hk; rfl
    subst eg
    exact ⟨hb, _, _, hh⟩
theorem RowTy.ne {w : World} {base sb : Nat} {t e : TypeId} {v : Value} {arr : Array Value} (ho : RowTy w base e v) (hb : Blk w sb t arr) (hne : t ≠ e) : some sb ≠ v.ownBlock := by
  intro e2
  obtain ⟨_, ar, fz, hh⟩ := ho sb e2.symm
  have h4 : w.heap[sb]? = some (.cells arr t (0, 0)) := hb
  rw [h4] at hh
  simp at hh
  exact hne hh.2.1
theorem Pz.grown {base sb : Nat} {w w' : World} {v : Value} (ho : RowTy w base 5 v) (hg : w.grownBy w' v.ownBlock) (hs : base ≤ w.heap.size) : Pz base sb w w' :=
  ⟨hg.os, hg.tape, hg.output, hg.size, fun k hk => hg.block k (by omega) (fun e => by have := (ho k e.symm).1; omega), fun _ _ _ h1 _ h3 => (hg.block _ h3.lt (ho.ne h3 h1)).trans h3⟩
theorem own_grow_blk {w w' : World} {base sb : Nat} {t e : TypeId} {v : Value} {arr : Array Value} (ho : RowTy w base e v) (hg : w.grownBy w' v.ownBlock) (hb : Blk w sb t arr) (hne : t ≠ e) : Blk w' sb t arr :=
  (hg.block sb hb.lt (ho.ne hb hne)).trans hb
/-- a full row with a mark behind it -/
def MarkR (w : World) (base : Nat) (e : TypeId) (v : Value) (xs : List Value) : Prop := ∃ g fz, v = .slice (some ⟨g, 0, none⟩) xs.length xs.length ∧ base ≤ g ∧ w.heap[g]? = some (.cells xs.toArray e fz)
theorem MarkR.lt {w : World} {g : Nat} {e : TypeId} {xs : List Value} {fz : Nat × Nat} (h : w.heap[g]? = some (.cells xs.toArray e fz)) : g < w.heap.size := (Array.getElem?_eq_some_iff.1 h).1
theorem MarkR.to {w w' : World} {base : Nat} {e : TypeId} {v : Value} {xs : List Value} (h : MarkR w base e v xs) (hb : Below w.heap.size w w') : MarkR w' base e v xs := by
  obtain ⟨g, fz, h1, h2, h3⟩ := h
  exact ⟨g, fz, h1, h2, (hb.block g (MarkR.lt h3)).trans h3⟩
theorem RowTy.mark {w : World} {base : Nat} {e : TypeId} {v : Value} {xs : List Value} (ho : MarkR w base e v xs) : RowTy w base e v := by
  obtain ⟨g, fz, h1, h2, h3⟩ := ho
  intro k hk
  rw [h1] at hk
  have eg : g = k := by cases hk; rfl
  subst eg
  exact ⟨h2, _, _, h3⟩
def AppR (w : World) (base : Nat) (e : TypeId) (v : Value) (n : Nat) (xs : List Value) : Prop := w.ownsRow base e 1 v n xs ∨ (n = xs.length ∧ MarkR w base e v xs)
theorem AppR.ty {w : World} {base n : Nat} {e : TypeId} {v : Value} {xs : List Value} (h : AppR w base e v n xs) : RowTy w base e v := by
  rcases h with h | h
  · exact RowTy.of h
  · exact RowTy.mark h.2
theorem AppR.alloc {w : World} {base n : Nat} {e : TypeId} {v : Value} {xs : List Value} (h : AppR w base e v n xs) (o : Obj) : AppR (w.alloc o) base e v n xs := by
  rcases h with h | h
  · exact .inl (h.alloc o)
  · exact .inr ⟨h.1, h.2.to ((Below.refl _ _).alloc (Nat.le_refl _) _)⟩
theorem wpList_append_appr {P : Program} (w : World) {ops : Array Oper} {rest : List Oper} {o : Oper} {a : Act} {Q : Exit → Act → World → Prop} (hgd : o.guard = none) (s x : Operand) (t : TypeId)
    (ho : o.op = .call { callee := .builtin .append, args := #[s, x], argTypes := #[t, t] })
    (base : Nat) (e : TypeId) (i : TypeInfo) (z : Value) (ht : P.underlying t = some (.slice e)) (hi : P.info? e = some i) (hz : i.zero = some z)
    (hsize : i.size = 1) (hby : i.bytes = 1) (hzs : z.cells.size = 1)
    (v : Value) (n : Nat) (xs : List Value) (hs : a.eval s = v) (hown : AppR w base e v n xs)
    (ad : Addr) (c : Nat) (u : Value) (hx : a.eval x = .slice (some ad) 1 c) (hnews : ∀ j u', [u][j]? = some u' → w.cell? (ad.add j) = some u') (h1 : u.oneCell' = true)
    (h63 : n + 1 ≤ 1000000000000) (hbase : base ≤ w.heap.size)
    (h : ∀ g cap w', w'.ownsRow base e 1 (.slice (some ⟨g, 0, none⟩) (n + 1) cap) (n + 1) (xs ++ [u]) → w.grownBy w' v.ownBlock → wpList P ops Q rest (a.put o.dst (.slice (some ⟨g, 0, none⟩) (n + 1) cap)) w') : wpList P ops Q (o :: rest) a w := by
  have hml : n + 1 ≤ maxLen := by simp only [maxLen]; omega
  rcases hown with hown | ⟨hn, g, fz, hv, hb, hg⟩
  · exact wpList_append_lies w hgd s x t ho base e i z 1 1 ht hi hz hsize hby hzs (by decide) v n xs hs hown ad 1 c [u] hx rfl hnews (by simpa using h1) (by decide) hml (by omega) hbase _ rfl (fun g cap w' h2 h3 _ _ => h g cap w' h2 h3)
  · subst hn
    subst hv
    refine wpList_plain hgd fun K hK => ?_
    have holds : ∀ j u', xs[j]? = some u' → w.cell? ((⟨g, 0, none⟩ : Addr).add j) = some u' := by
      intro j u' hj
      have hadd : (⟨g, 0, none⟩ : Addr).add j = ⟨g, 0 + j, none⟩ := by unfold Addr.add; split <;> simp_all
      rw [hadd, Nat.zero_add]
      simp [World.cell?, hg, hj]
    have hr := run_append_grow (P := P) w t o.type e i _ ht hi hz ⟨g, 0, none⟩ xs.length xs.length xs (by rw [hsize]; omega) holds ad 1 c [u] (by rw [hsize]; rfl) hnews (by omega) (by omega) (growslice_fits (by omega) (by rw [hby]; omega))
    have hge := grownCap_ge w (xs.length + 1) xs.length e
    have hcm := grownCap_le_maxLen w (xs.length + 1) xs.length e hml
    unfold Oper.wp execOp
    simp only [ho, resolve, invoke, builtin, Sem.run_bind, Sem.run_pure, Result.andThen_ok, List.map_toArray, List.map_cons, List.map_nil, hs, hx, hr]
    refine hK _ _ (h _ _ _ ⟨by simp, .inr ⟨w.heap.size, _, _, rfl, hbase, heap_alloc_new w.drew _, hge, hcm, ?_, ?_⟩⟩ ⟨rfl, rfl, rfl, by simp, fun k hk _ => heap_alloc_old w.drew _ hk⟩)
    · simp only [Array.size_append, List.size_toArray, size_zeroCells, hzs]
      simp
      omega
    · simp only [Array.toList_append, List.append_assoc]
      rw [← List.append_assoc]
      have : (xs.length + 1) * 1 = (xs ++ [u]).length := by simp
      rw [this]; exact List.take_left
/-- a stream that is being written: so many bits, as told -/
def StrP (w : World) (base sb : Nat) (f : Nat → Nat) (q : Nat) : Prop := ∃ v X, Blk w sb 48 (strA v (q : Int) 0 false) ∧ (w.ownsRow base 5 1 v X.length (X.map byV) ∨ (q = 32 ∧ MarkR w base 5 v (X.map byV))) ∧ Enc X q f
theorem or_bit8 : ∀ (x : Fin 256) (k : Fin 8), x.val / 2 ^ k.val % 2 = 0 → x.val ||| 2 ^ k.val = x.val + 2 ^ k.val := by decide +kernel
theorem or_put (x k : Nat) (hx : x < 256) (hk : k < 8) (h : x / 2 ^ k % 2 = 0) : bits BinOp.or IntKind.u8 (x : Int) ((2 ^ k : Nat) : Int) = ((x + 2 ^ k : Nat) : Int) := by
  have h2 : 2 ^ k ≤ 2 ^ 7 := Nat.pow_le_pow_right (by decide) (by omega)
  rw [u8_or_nat x (2 ^ k) hx (by omega), or_bit8 ⟨x, hx⟩ ⟨k, hk⟩ h]
theorem set_map {α β : Type} (f : α → β) (l : List α) (i : Nat) (x : α) : (l.map f).set i (f x) = (l.set i x).map f := by simp [List.map_set]

set_option maxRecDepth 100000 in
set_option maxHeartbeats 8000000 in
theorem put_doc (base : Nat) (w : World) (sb : Nat) (hbs : base ≤ sb) (f : Nat → Nat) (q n vv : Nat) (hst : StrP w base sb f q) (hn : n ≤ 16) (hq : q ≤ 1000000000) (hbit : ∀ i, i < n → vv / 2 ^ (n - 1 - i) % 2 = f (q + i)) :
    Calls Tryd.prog 12 #[.pointer (some ⟨sb, 0, none⟩), .int .i64 (vv : Int), .int .i64 (n : Int)] w fun e w' => (∃ u, e = .returned u) ∧ StrP w' base sb f (q + n) ∧ Pz base sb w w' := by
  have HST := hidden hst
  have HBIT := hidden hbit
  obtain ⟨ib, hib, hzb, hsb, hbb⟩ := info_u8
  have HI := hidden hib
  have HZ := hidden hzb
  have HS := hidden hsb
  have HBY := hidden hbb
  clear hib hzb hsb hbb hst hbit
  have e1 : IntKind.i64.wrap ((n : Int) - 1) = (n : Int) - 1 - ((0 : Nat) : Int) := by rw [wrapI _ (by omega) (by omega)]; omega
  go_enter Tryd.func12, Tryd.ntmps12
  go_wp2_with fail
  go_loopw [6] (fun i' w' => ∃ (j : Nat), j ≤ n ∧ i' = .int .i64 ((n : Int) - 1 - (j : Int)) ∧ Hid (StrP w' base sb f (q + j)) ∧ Hid (Pz base sb w w')) (fun i' _ => ((intOf i') + 1).toNat)
  case atStart => exact ⟨0, Nat.zero_le _, by first | rfl | simp, HST.out, Pz.refl _ _ _⟩
  case round =>
    obtain ⟨j, hj, rfl, HSP, HPZ⟩ := hrel
    by_cases hlt : j < n
    · obtain ⟨i, hi⟩ : ∃ i : Nat, i = n - 1 - j := ⟨_, rfl⟩
      have hiI : (n : Int) - 1 - (j : Int) = (i : Int) := by omega
      obtain ⟨Q, HQ⟩ : ∃ Q, Hid (Q = q + j) := ⟨_, rfl⟩
      have hQ : Q ≤ 1000000016 := by have := HQ.out; omega
      rw [← HQ.out] at HSP
      obtain ⟨va, X, hB, hO, hE⟩ := HSP.out
      have HBA0 := hidden hB
      have HOA0 : Hid (AppR wr base 5 va X.length (X.map byV)) := by
        rcases hO with hO | hO
        · exact .inl hO
        · exact .inr ⟨by simp, hO.2⟩
      have HOA9 : Hid (Q % 8 ≠ 0 → wr.ownsRow base 5 1 va X.length (X.map byV)) := by
        intro h8
        rcases hO with hO | hO
        · exact hO
        · exfalso; have := hO.1; omega
      have HEN := hidden hE
      obtain ⟨bt, hbt⟩ : ∃ b, b = f Q := ⟨_, rfl⟩
      have HBT : Hid (vv / 2 ^ i % 2 = bt) := by
        show _ = _
        have := HBIT.out j hlt
        rw [← hi] at this
        rw [this, hbt, HQ.out]
      have hb2 : bt < 2 := by rw [← HBT.out]; exact Nat.mod_lt _ (by decide)
      have HTM : Hid (((vv : Int) / 2 ^ i).tmod 2 = (bt : Int)) := by
        show _ = _
        have e0 : (vv : Int) / 2 ^ i = ((vv / 2 ^ i : Nat) : Int) := by simp
        rw [e0, Int.tmod_eq_emod_of_nonneg (Int.natCast_nonneg _)]
        have := HBT.out
        omega
      have HPT : Hid (Enc (putB X Q bt) (Q + 1) f) := HEN.out.put bt hb2 f (fun _ _ => rfl) hbt.symm
      have HLN := hidden HEN.out.len
      have HBYT := hidden HEN.out.byte
      have HZR := hidden (HEN.out.zero Q (Nat.le_refl _))
      clear hB hO hE hbt
      rw [hiI]
      have hi16 : i < 16 := by omega
      have hgeI : (0 : Int) ≤ (i : Int) := by omega
      have eN : IntKind.i64.wrap ((i : Int) - 1) = (n : Int) - 1 - ((j + 1 : Nat) : Int) := by rw [wrapI _ (by omega) (by omega)]; omega
      have eQ : IntKind.i64.wrap ((Q : Int) + 1) = ((Q + 1 : Nat) : Int) := by rw [wrapI _ (by omega) (by omega)]; omega
      obtain ⟨r, hr⟩ : ∃ r, r = Q % 8 := ⟨_, rfl⟩
      have z2 : (Q : Int).tmod 8 = (r : Int) := by rw [hr, Int.tmod_eq_emod_of_nonneg (by omega)]; omega
      have z4 : (Q : Int) % 8 = (r : Int) := by rw [hr]; omega
      have hr7 : r ≤ 7 := by omega
      have q1 : wr.cell? ⟨sb, 1, none⟩ = some (.int .i64 (Q : Int)) := HBA0.out.cell rfl
      have hszb : base ≤ wr.heap.size := by have := HBA0.out.lt; omega
      have HI0 := hidden hi
      have HR := hidden hr
      clear hi hr
      by_cases hr0 : r = 0
      · have z20 : (Q : Int).tmod 8 = 0 := by rw [z2, hr0]; rfl
        have z40 : (Q : Int) % 8 = 0 := by rw [z4, hr0]; rfl
        have HZ2 := hidden z2
        have HZ4 := hidden z4
        clear z2 z4
        have q0 : wr.cell? ⟨sb, 0, none⟩ = some va := HBA0.out.cell rfl
        have f0 := HBA0.out.frozen 0
        have hXl : X.length ≤ 200000000 := by have := HLN.out; omega
        have hm1 : X.length + 1 ≤ 1000000000000 := by omega
        have hm3 : base ≤ (wr.alloc (.cells #[.int .u8 0] 5)).heap.size := by simp; omega
        have tok : True := trivial
        go_upto_region 5 with (have _t := tok; at_builtin; (refine wpList_append_appr _ rfl (.tmp 23) (.tmp 24) 22 rfl base 5 ib _ Tryd.underlying22 HI.out HZ.out HS.out HBY.out rfl va X.length _ rfl (HOA0.out.alloc _) ⟨wr.heap.size, 0, none⟩ 1 (.int .u8 0) rfl (World.news_of_block (heap_new _ _)) rfl hm1 hm3 ?_; intro g5 cap5 w5 hown hgrow; have HB5 : Hid (Blk w5 sb 48 (strA va (Q : Int) 0 false)) := own_grow_blk (HOA0.out.alloc _).ty hgrow (HBA0.out.below ((Below.refl _ _).alloc (Nat.le_refl _) _)) (by decide); have q05 : w5.cell? ⟨sb, 0, none⟩ = some va := HB5.out.cell rfl; have f05 := HB5.out.frozen 0; have HOW := hidden hown; have HGW := hidden hgrow; clear tok hown hgrow))
        have HBA : Hid (Blk (w5.setCell ⟨sb, 0, none⟩ (.slice (some ⟨g5, 0, none⟩) (X.length + 1) cap5)) sb 48 (strA (.slice (some ⟨g5, 0, none⟩) (X.length + 1) cap5) (Q : Int) 0 false)) := HB5.out.set 0 _
        have HPA : Hid (Pz base sb wr (w5.setCell ⟨sb, 0, none⟩ (.slice (some ⟨g5, 0, none⟩) (X.length + 1) cap5))) := (((Pz.refl _ _ _).alloc _ hszb).trans (Pz.grown (HOA0.out.alloc _).ty HGW.out (by simp; omega))).trans (Pz.set _ _ hbs)
        have hg5s : g5 ≠ sb := own_blk_ne HB5.out HOW.out (by decide)
        have HOA1 : Hid ((w5.setCell ⟨sb, 0, none⟩ (.slice (some ⟨g5, 0, none⟩) (X.length + 1) cap5)).ownsRow base 5 1 (.slice (some ⟨g5, 0, none⟩) (X.length + 1) cap5) (X.length + 1) (X.map byV ++ [byV 0])) := ownsRow_setCell_other HOW.out (by intro e; exact hg5s (by cases e; rfl)) _
        clear hg5s
        generalize w5.setCell ⟨sb, 0, none⟩ (.slice (some ⟨g5, 0, none⟩) (X.length + 1) cap5) = wa at *
        obtain ⟨X1, HX1⟩ : ∃ X1, Hid (X1 = X ++ [0]) := ⟨X ++ [0], rfl⟩
        have HXL : Hid (X1.length = X.length + 1) := by show _ = _; rw [HX1.out]; simp
        have HOA : Hid (wa.ownsRow base 5 1 (.slice (some ⟨g5, 0, none⟩) X1.length cap5) X1.length (X1.map byV)) := by
          show World.ownsRow _ _ _ _ _ _ _
          rw [HXL.out, HX1.out, List.map_append]
          exact HOA1.out
        rw [← HXL.out] at HBA
        have HPB : Hid (putB X Q bt = if bt = 1 then X1.set (Q / 8) (X1.getD (Q / 8) 0 + 2 ^ (7 - Q % 8)) else X1) := by
          show _ = _
          have hQ8 : Q % 8 = 0 := by rw [← HR.out, hr0]
          simp only [putB, if_pos hQ8, HX1.out]
        have HX1L : Hid (Q / 8 < X1.length) := by
          show _ < _
          rw [HXL.out, HLN.out]; omega
        have HX1B : Hid (∀ x, x ∈ X1 → x < 256) := by
          intro x hx
          rw [HX1.out] at hx
          rcases List.mem_append.1 hx with hx | hx
          · exact HBYT.out x hx
          · simp at hx; omega
        have HX1Z : Hid (bitN X1 Q = 0) := by
          show _ = _
          rw [HX1.out, bitN_grow]; exact HZR.out
        have z2 := HZ2.out
        have z4 := HZ4.out
        clear HB5 HOW HGW q05 f05 HOA1 HXL HX1 HLN HBYT HZR z20 z40 HZ2 HZ4 HBA0 HOA0 hm1 hm3 q0 q1 f0 hXl hr0
        obtain ⟨x, hx⟩ := getElem_lt HX1L.out
        have hx2 : x < 256 := HX1B.out x (List.mem_of_getElem? hx)
        have cx : wa.cell? ⟨g5, Q / 8, none⟩ = some (.int .u8 (x : Int)) := by rw [HOA.out.cellAt (Q / 8) (by have := HX1L.out; omega), List.getElem?_map, hx]; rfl
        have fx := HOA.out.frozenAt (Q / 8)
        have q0 : wa.cell? ⟨sb, 0, none⟩ = some (.slice (some ⟨g5, 0, none⟩) X1.length cap5) := HBA.out.cell rfl
        have q1 : wa.cell? ⟨sb, 1, none⟩ = some (.int .i64 (Q : Int)) := HBA.out.cell rfl
        have f1 := HBA.out.frozen 1
        have hgs : g5 ≠ sb := own_blk_ne HBA.out HOA.out (by decide)
        have hgx : X1.getD (Q / 8) 0 = x := getD_of hx
        rw [hgx] at HPB
        have HZB : Hid (x / 2 ^ (7 - Q % 8) % 2 = 0) := by have h := HX1Z.out; unfold bitN at h; rw [hgx] at h; exact h
        rw [← HR.out] at HZB HPB
        obtain ⟨d, hd⟩ : ∃ d, d = Q / 8 := ⟨_, rfl⟩
        rw [← hd] at cx fx HPB HX1L
        have z1 : (Q : Int).tdiv 8 = (d : Int) := by rw [hd, Int.tdiv_eq_ediv_of_nonneg (by omega)]; omega
        have z3 : (Q : Int) / 8 = (d : Int) := by rw [hd]; omega
        have hdl : (d : Int) < (X1.length : Int) := by have := HX1L.out; omega
        have zd : IntKind.i64.wrap (d : Int) = (d : Int) := wrapI _ (by omega) (by omega)
        have zr : IntKind.i64.wrap (r : Int) = (r : Int) := wrapI _ (by omega) (by omega)
        have z5 : IntKind.i64.wrap (7 - (r : Int)) = ((7 - r : Nat) : Int) := by rw [wrapI _ (by omega) (by omega)]; omega
        have HDD := hidden hd
        have HX1L2 := hidden HX1L.out
        clear hd hx hgx HX1L
        by_cases hbit : bt = 1
        · have hbI : ((vv : Int) / 2 ^ i).tmod 2 = 1 := by rw [HTM.out, hbit]; rfl
          have HPE : Hid (putB X Q bt = X1.set d (x + 2 ^ (7 - r))) := by show _ = _; rw [HPB.out, if_pos hbit]
          have HOR : Hid (bits BinOp.or IntKind.u8 (x : Int) ((2 ^ (7 - r) : Nat) : Int) = ((x + 2 ^ (7 - r) : Nat) : Int)) := or_put x (7 - r) hx2 (by omega) HZB.out
          go_wp2_with fail
          refine wp_region_still_tail 29 (by kernel_rfl) (by kernel_rfl) ?_
          obtain ⟨wd, hwd⟩ : ∃ x, x = wa.drew := ⟨_, rfl⟩
          have HWD : Hid (wd = wa.drew) := hwd
          show wpStill _ _ wa.drew (fun a' => wpList _ _ _ _ a' wa.drew) _ _
          rw [← hwd]
          have q0d : wd.cell? ⟨sb, 0, none⟩ = some (.slice (some ⟨g5, 0, none⟩) X1.length cap5) := by rw [hwd]; exact q0
          have q1d : wd.cell? ⟨sb, 1, none⟩ = some (.int .i64 (Q : Int)) := by rw [hwd]; exact q1
          have cxd : wd.cell? ⟨g5, d, none⟩ = some (.int .u8 (x : Int)) := by rw [hwd]; exact cx
          have fxd : wd.frozen? ⟨g5, d, none⟩ = false := by rw [hwd]; exact fx
          have f1d : wd.frozen? ⟨sb, 1, none⟩ = false := by rw [hwd]; exact f1
          clear hwd q0 q1 cx fx f1
          simp only [List.take_succ_cons, List.take_zero, List.drop_succ_cons, List.drop_zero]
          repeat still_step
          refine wpStill_nil ?_
          go_wp2
          have E : bits BinOp.or IntKind.u8 (x : Int) (2 ^ min (7 - r) 8 % 256) = ((x + 2 ^ (7 - r) : Nat) : Int) := by
            rw [← HOR.out]
            congr 1
            rw [Nat.min_eq_left (by omega)]
            have h2 : 2 ^ (7 - r) ≤ 2 ^ 7 := Nat.pow_le_pow_right (by decide) (by omega)
            rw [show ((2 : Int) ^ (7 - r)) = ((2 ^ (7 - r) : Nat) : Int) by simp]
            generalize 2 ^ (7 - r) = z at h2 ⊢
            omega
          rw [E]
          have hOD : wd.ownsRow base 5 1 (.slice (some ⟨g5, 0, none⟩) X1.length cap5) X1.length (X1.map byV) := by rw [HWD.out]; exact HOA.out.drew
          have hBD : Blk wd sb 48 (strA (.slice (some ⟨g5, 0, none⟩) X1.length cap5) (Q : Int) 0 false) := by rw [HWD.out]; exact HBA.out.drewN 1
          have hPD : Pz base sb w wd := by rw [HWD.out]; exact (HPZ.out.trans HPA.out).drewN 1
          obtain ⟨hs1, hs2⟩ := hOD.stored d (byV (x + 2 ^ (7 - r)))
          rw [set_map] at hs1
          have hBE := own_grow_blk (RowTy.of hOD) hs2 hBD (by decide)
          have hPE2 : Pz base sb w (wd.setCell ⟨g5, d, none⟩ (byV (x + 2 ^ (7 - r)))) := hPD.trans (Pz.grown (RowTy.of hOD) hs2 (by have := hBD.lt; omega))
          have hX2 : (X1.set d (x + 2 ^ (7 - r))).length = X1.length := by simp
          have eQ2 : (Q : Int) + 1 = ((Q + 1 : Nat) : Int) := by omega
          rw [eQ2]
          refine ⟨⟨j + 1, by omega, by simp, ⟨.slice (some ⟨g5, 0, none⟩) X1.length cap5, X1.set d (x + 2 ^ (7 - r)), ?_, ?_, ?_⟩, hPE2.trans (Pz.set _ _ hbs)⟩, by simp [intOf]; omega⟩
          · rw [show q + (j + 1) = Q + 1 by rw [HQ.out]; omega]
            exact hBE.set 1 _
          · left
            rw [hX2]
            exact ownsRow_setCell_other hs1 (by intro e; exact hgs (by cases e; rfl)) _
          · rw [show q + (j + 1) = Q + 1 by rw [HQ.out]; omega, ← HPE.out]
            exact HPT.out
        · have hbI : ¬ ((vv : Int) / 2 ^ i).tmod 2 = 1 := by rw [HTM.out]; omega
          have HPE : Hid (putB X Q bt = X1) := by show _ = _; rw [HPB.out, if_neg hbit]
          have HNB : Hid (Blk (wa.setCell ⟨sb, 1, none⟩ (.int .i64 ((Q + 1 : Nat) : Int))) sb 48 (strA (.slice (some ⟨g5, 0, none⟩) X1.length cap5) ((Q + 1 : Nat) : Int) 0 false)) := HBA.out.set 1 _
          have HNO : Hid ((wa.setCell ⟨sb, 1, none⟩ (.int .i64 ((Q + 1 : Nat) : Int))).ownsRow base 5 1 (.slice (some ⟨g5, 0, none⟩) X1.length cap5) X1.length (X1.map byV)) := ownsRow_setCell_other HOA.out (by intro e; exact hgs (by cases e; rfl)) _
          have HNP : Hid (Pz base sb w (wa.setCell ⟨sb, 1, none⟩ (.int .i64 ((Q + 1 : Nat) : Int)))) := (HPZ.out.trans HPA.out).trans (Pz.set _ _ hbs)
          go_wp2
          go_roundw
          case measure => simp [intOf]; omega
          case rel => exact ⟨j + 1, by omega, by first | rfl | simp, ⟨_, X1, by rw [show q + (j + 1) = Q + 1 by rw [HQ.out]; omega]; exact HNB.out, .inl HNO.out, by rw [show q + (j + 1) = Q + 1 by rw [HQ.out]; omega, ← HPE.out]; exact HPT.out⟩, HNP.out⟩
      · have hr0I : ¬ ((r : Int) = 0) := by omega
        go_upto_region 5 with fail
        obtain ⟨wa, hwa⟩ : ∃ x, x = wr := ⟨_, rfl⟩
        have HPA : Hid (Pz base sb wr wa) := by rw [hwa]; exact Pz.refl _ _ _
        obtain ⟨X1, HX1⟩ : ∃ X1, X1 = X := ⟨_, rfl⟩
        have HX1L : Hid (Q / 8 < X1.length) := by
          show _ < _
          rw [HX1, HLN.out]
          have := HR.out
          omega
        have HOA' : Hid (wr.ownsRow base 5 1 va X.length (X.map byV)) := HOA9.out (by rw [← HR.out]; exact hr0)
        have HBA := HBA0
        rcases HOA'.out.2 with ⟨hn0, hn1⟩ | ⟨g5, cap5, cur, hva, -⟩
        · exfalso; have := HX1L.out; rw [HX1] at this; omega
        subst hva
        rw [← hwa, ← HX1] at HBA
        have HOA : Hid (wa.ownsRow base 5 1 (.slice (some ⟨g5, 0, none⟩) X1.length cap5) X1.length (X1.map byV)) := by rw [hwa, HX1]; exact HOA'.out
        have HPB : Hid (putB X Q bt = if bt = 1 then X1.set (Q / 8) (X1.getD (Q / 8) 0 + 2 ^ (7 - Q % 8)) else X1) := by
          show _ = _
          have hQ8 : ¬ Q % 8 = 0 := by rw [← HR.out]; exact hr0
          simp only [putB, if_neg hQ8, HX1]
        have HX1B : Hid (∀ x, x ∈ X1 → x < 256) := by rw [HX1]; exact HBYT.out
        have HX1Z : Hid (bitN X1 Q = 0) := by rw [HX1]; exact HZR.out
        rw [← hwa]
        clear HX1 hwa HOA' HOA0 HOA9 HBA0 HLN HBYT HZR q1 hr0 hr0I
        obtain ⟨x, hx⟩ := getElem_lt HX1L.out
        have hx2 : x < 256 := HX1B.out x (List.mem_of_getElem? hx)
        have cx : wa.cell? ⟨g5, Q / 8, none⟩ = some (.int .u8 (x : Int)) := by rw [HOA.out.cellAt (Q / 8) (by have := HX1L.out; omega), List.getElem?_map, hx]; rfl
        have fx := HOA.out.frozenAt (Q / 8)
        have q0 : wa.cell? ⟨sb, 0, none⟩ = some (.slice (some ⟨g5, 0, none⟩) X1.length cap5) := HBA.out.cell rfl
        have q1 : wa.cell? ⟨sb, 1, none⟩ = some (.int .i64 (Q : Int)) := HBA.out.cell rfl
        have f1 := HBA.out.frozen 1
        have hgs : g5 ≠ sb := own_blk_ne HBA.out HOA.out (by decide)
        have hgx : X1.getD (Q / 8) 0 = x := getD_of hx
        rw [hgx] at HPB
        have HZB : Hid (x / 2 ^ (7 - Q % 8) % 2 = 0) := by have h := HX1Z.out; unfold bitN at h; rw [hgx] at h; exact h
        rw [← HR.out] at HZB HPB
        obtain ⟨d, hd⟩ : ∃ d, d = Q / 8 := ⟨_, rfl⟩
        rw [← hd] at cx fx HPB HX1L
        have z1 : (Q : Int).tdiv 8 = (d : Int) := by rw [hd, Int.tdiv_eq_ediv_of_nonneg (by omega)]; omega
        have z3 : (Q : Int) / 8 = (d : Int) := by rw [hd]; omega
        have hdl : (d : Int) < (X1.length : Int) := by have := HX1L.out; omega
        have zd : IntKind.i64.wrap (d : Int) = (d : Int) := wrapI _ (by omega) (by omega)
        have zr : IntKind.i64.wrap (r : Int) = (r : Int) := wrapI _ (by omega) (by omega)
        have z5 : IntKind.i64.wrap (7 - (r : Int)) = ((7 - r : Nat) : Int) := by rw [wrapI _ (by omega) (by omega)]; omega
        have HDD := hidden hd
        have HX1L2 := hidden HX1L.out
        clear hd hx hgx HX1L
        by_cases hbit : bt = 1
        · have hbI : ((vv : Int) / 2 ^ i).tmod 2 = 1 := by rw [HTM.out, hbit]; rfl
          have HPE : Hid (putB X Q bt = X1.set d (x + 2 ^ (7 - r))) := by show _ = _; rw [HPB.out, if_pos hbit]
          have HOR : Hid (bits BinOp.or IntKind.u8 (x : Int) ((2 ^ (7 - r) : Nat) : Int) = ((x + 2 ^ (7 - r) : Nat) : Int)) := or_put x (7 - r) hx2 (by omega) HZB.out
          go_wp2_with fail
          refine wp_region_still_tail 29 (by kernel_rfl) (by kernel_rfl) ?_
          obtain ⟨wd, hwd⟩ : ∃ x, x = wa.drew := ⟨_, rfl⟩
          have HWD : Hid (wd = wa.drew) := hwd
          show wpStill _ _ wa.drew (fun a' => wpList _ _ _ _ a' wa.drew) _ _
          rw [← hwd]
          have q0d : wd.cell? ⟨sb, 0, none⟩ = some (.slice (some ⟨g5, 0, none⟩) X1.length cap5) := by rw [hwd]; exact q0
          have q1d : wd.cell? ⟨sb, 1, none⟩ = some (.int .i64 (Q : Int)) := by rw [hwd]; exact q1
          have cxd : wd.cell? ⟨g5, d, none⟩ = some (.int .u8 (x : Int)) := by rw [hwd]; exact cx
          have fxd : wd.frozen? ⟨g5, d, none⟩ = false := by rw [hwd]; exact fx
          have f1d : wd.frozen? ⟨sb, 1, none⟩ = false := by rw [hwd]; exact f1
          clear hwd q0 q1 cx fx f1
          simp only [List.take_succ_cons, List.take_zero, List.drop_succ_cons, List.drop_zero]
          repeat still_step
          refine wpStill_nil ?_
          go_wp2
          have E : bits BinOp.or IntKind.u8 (x : Int) (2 ^ min (7 - r) 8 % 256) = ((x + 2 ^ (7 - r) : Nat) : Int) := by
            rw [← HOR.out]
            congr 1
            rw [Nat.min_eq_left (by omega)]
            have h2 : 2 ^ (7 - r) ≤ 2 ^ 7 := Nat.pow_le_pow_right (by decide) (by omega)
            rw [show ((2 : Int) ^ (7 - r)) = ((2 ^ (7 - r) : Nat) : Int) by simp]
            generalize 2 ^ (7 - r) = z at h2 ⊢
            omega
          rw [E]
          have hOD : wd.ownsRow base 5 1 (.slice (some ⟨g5, 0, none⟩) X1.length cap5) X1.length (X1.map byV) := by rw [HWD.out]; exact HOA.out.drew
          have hBD : Blk wd sb 48 (strA (.slice (some ⟨g5, 0, none⟩) X1.length cap5) (Q : Int) 0 false) := by rw [HWD.out]; exact HBA.out.drewN 1
          have hPD : Pz base sb w wd := by rw [HWD.out]; exact (HPZ.out.trans HPA.out).drewN 1
          obtain ⟨hs1, hs2⟩ := hOD.stored d (byV (x + 2 ^ (7 - r)))
          rw [set_map] at hs1
          have hBE := own_grow_blk (RowTy.of hOD) hs2 hBD (by decide)
          have hPE2 : Pz base sb w (wd.setCell ⟨g5, d, none⟩ (byV (x + 2 ^ (7 - r)))) := hPD.trans (Pz.grown (RowTy.of hOD) hs2 (by have := hBD.lt; omega))
          have hX2 : (X1.set d (x + 2 ^ (7 - r))).length = X1.length := by simp
          have eQ2 : (Q : Int) + 1 = ((Q + 1 : Nat) : Int) := by omega
          rw [eQ2]
          refine ⟨⟨j + 1, by omega, by simp, ⟨.slice (some ⟨g5, 0, none⟩) X1.length cap5, X1.set d (x + 2 ^ (7 - r)), ?_, ?_, ?_⟩, hPE2.trans (Pz.set _ _ hbs)⟩, by simp [intOf]; omega⟩
          · rw [show q + (j + 1) = Q + 1 by rw [HQ.out]; omega]
            exact hBE.set 1 _
          · left
            rw [hX2]
            exact ownsRow_setCell_other hs1 (by intro e; exact hgs (by cases e; rfl)) _
          · rw [show q + (j + 1) = Q + 1 by rw [HQ.out]; omega, ← HPE.out]
            exact HPT.out
        · have hbI : ¬ ((vv : Int) / 2 ^ i).tmod 2 = 1 := by rw [HTM.out]; omega
          have HPE : Hid (putB X Q bt = X1) := by show _ = _; rw [HPB.out, if_neg hbit]
          have HNB : Hid (Blk (wa.setCell ⟨sb, 1, none⟩ (.int .i64 ((Q + 1 : Nat) : Int))) sb 48 (strA (.slice (some ⟨g5, 0, none⟩) X1.length cap5) ((Q + 1 : Nat) : Int) 0 false)) := HBA.out.set 1 _
          have HNO : Hid ((wa.setCell ⟨sb, 1, none⟩ (.int .i64 ((Q + 1 : Nat) : Int))).ownsRow base 5 1 (.slice (some ⟨g5, 0, none⟩) X1.length cap5) X1.length (X1.map byV)) := ownsRow_setCell_other HOA.out (by intro e; exact hgs (by cases e; rfl)) _
          have HNP : Hid (Pz base sb w (wa.setCell ⟨sb, 1, none⟩ (.int .i64 ((Q + 1 : Nat) : Int)))) := (HPZ.out.trans HPA.out).trans (Pz.set _ _ hbs)
          go_wp2
          go_roundw
          case measure => simp [intOf]; omega
          case rel => exact ⟨j + 1, by omega, by first | rfl | simp, ⟨_, X1, by rw [show q + (j + 1) = Q + 1 by rw [HQ.out]; omega]; exact HNB.out, .inl HNO.out, by rw [show q + (j + 1) = Q + 1 by rw [HQ.out]; omega, ← HPE.out]; exact HPT.out⟩, HNP.out⟩
    · have hge : ¬ ((0 : Int) ≤ (n : Int) - 1 - (j : Int)) := by omega
      have HSE : Hid (StrP wr base sb f (q + n)) := by rw [← show j = n by omega]; exact HSP.out
      go_wp2
      go_end0
      exact ⟨⟨_, rfl⟩, HSE.out, HPZ.out⟩

end Go.Proofs.YtjbnejjjbdalaaaDoor
