import Derived.Test.YtlaljeobdddegaaMqW
namespace Go.Proofs.Ytlaljeobdddegaa
open Go.RowKit Mp

def zV (x : Int) : Value := .int .i64 x
theorem app_ints (w : World) {ops : Array Oper} {rest : List Oper} {o : Oper} {a : Act} {Q : Exit → Act → World → Prop} (hgd : o.guard = none) (s x : Operand)
    (ho : o.op = .call { callee := .builtin .append, args := #[s, x], argTypes := #[24, 24] })
    (base : Nat) (v : Value) (n : Nat) (xs : List Value) (hs : a.eval s = v) (hown : w.ownsRow base 3 1 v n xs)
    (la : Option Addr) (lc : Nat) (l : List Int) (hx : a.eval x = .slice la l.length lc) (hb : RowAt w.heap.size w la 1 (l.map intC)) (hnil : la = none → lc = 0)
    (hn : n + l.length ≤ 1000000000000) (hbase : base ≤ w.heap.size)
    (h : ∀ v' w', w'.ownsRow base 3 1 v' (n + l.length) (xs ++ l.map zV) → w.grownBy w' v.ownBlock → (l ≠ [] ∨ la = none → v'.ownBlock = v.ownBlock ∨ v'.ownBlock = some w.heap.size) → wpList Try.prog ops Q rest (a.put o.dst v') w') :
    wpList Try.prog ops Q (o :: rest) a w := by
  obtain ⟨i, hi, hz, hsz, hby⟩ := info_n
  by_cases hne : l = []
  · subst hne
    cases la with
    | none =>
      have e := hnil rfl
      subst e
      refine wpList_plain hgd fun K hK => ?_
      have hr := run_append_owned_none (P := Try.prog) w base 24 o.type 3 i 1 ints_u hi v n xs hown
      unfold Oper.wp execOp
      have hx' : a.eval x = .slice none 0 0 := hx
      simp only [ho, resolve, invoke, builtin, Sem.run_bind, Sem.run_pure, Result.andThen_ok, List.map_toArray, List.map_cons, List.map_nil, hs, hx', hr]
      exact hK _ _ (h v w (by simpa using hown) (World.grownBy.refl _ _) (fun _ => Or.inl rfl))
    | some ad =>
      refine wpList_append_own_at w hgd s x 24 ho base 3 i _ 1 8 ints_u hi hz hsz hby rfl (by decide) v n xs hs hown ad 0 lc [] hx (by simp) (fun j u hu => by simp at hu) (fun u hu => by simp at hu) (by simp only [maxLen]; omega) (by omega) hbase ?_
      intro v' w' h1 h2 _ _
      exact h v' w' (by simpa using h1) h2 (fun e => by
        rcases e with e | e
        · exact absurd rfl e
        · cases e)
  · obtain ⟨b, off, hbo, _, _⟩ := hb (by simpa using hne)
    subst hbo
    refine wpList_append_lies w hgd s x 24 ho base 3 i _ 1 8 ints_u hi hz hsz hby rfl (by decide) v n xs hs hown ⟨b, off, none⟩ l.length lc (l.map zV) hx (by simp) ?_ ?_ (List.length_pos_iff.2 hne) (by simp only [maxLen]; omega) (by omega) hbase _ rfl ?_
    · intro j u hu
      rw [List.getElem?_map] at hu
      cases hl : l[j]? with
      | none => rw [hl] at hu; cases hu
      | some y =>
        rw [hl] at hu
        have e : Value.int .i64 y = u := by simpa [zV] using hu
        subst e
        obtain ⟨b', o', e3, _, hc⟩ := hb.intR hl
        simp only [Option.some.injEq, Addr.mk.injEq, and_true] at e3
        obtain ⟨rfl, rfl⟩ := e3
        rw [addL]; exact hc
    · intro u hu
      obtain ⟨y, _, rfl⟩ := List.mem_map.1 hu
      rfl
    · intro g cap w' h1 h2 h3 _
      refine h _ w' h1 h2 (fun _ => ?_)
      rcases h3 with h3 | h3
      · exact Or.inl h3.symm
      · exact Or.inr (by rw [h3]; rfl)
def endL (G : GrD) : List Int := G.outs ++ G.lats.map LatD.next
set_option maxRecDepth 100000 in
set_option maxHeartbeats 8000000 in
theorem ends_any (B : Nat) (w : World) (gb : Nat) (S : GrS) (G : GrD) (ni n : Nat) (hF : FineG G ni n) (h : GIn B w gb S G) (hnil : S.a3 = none → S.c3 = 0) :
    Calls Try.prog 41 #[.pointer (some ⟨gb, 0, none⟩)] w fun e w' => ∃ v, e = .returned v ∧ Hid (w'.ownsRow w.heap.size 3 1 v (endL G).length ((endL G).map zV)) ∧ Hid (Bl w w') := by
  have c3 := h.bx.c3
  have HG : Hid (∀ v : World, Bl w v → GIn B v gb S G) := fun v hv => h.to (hv.mono h.le)
  have HR3 := hidden (h.at_.o.mono h.le)
  obtain ⟨a1, Ea1⟩ := exh S.a1
  have HRW : Hid (∀ v : World, Bl w v → ∀ (k : Nat) (d : LatD), G.lats[k]? = some d → ∃ b o, a1 = some ⟨b, o, none⟩ ∧ b < w.heap.size ∧ v.cell? ⟨b, o + k * 2, none⟩ = some (.int .i64 d.next) ∧ v.cell? ⟨b, o + k * 2 + 1, none⟩ = some (.bool d.init)) := fun v hv k d hd => by
    obtain ⟨b, o, h1, h2, h3⟩ := (HG.out v hv).at_.l.el hd
    exact ⟨b, o, Ea1.out.trans h1, Nat.lt_of_lt_of_le h2 h.le, h3 0 _ rfl, h3 1 _ rfl⟩
  have hlo := hF.lo
  have hll := hF.ll
  obtain ⟨nl, Enl⟩ := exh G.lats.length
  obtain ⟨no, Eno⟩ := exh G.outs.length
  rw [← Enl.out] at hll
  rw [← Eno.out] at hlo c3
  have HNL := hidden hnil
  clear h hF hnil
  go_enter Try.func41, Try.ntmps41
  have tok : True := trivial
  go_upto_region 2 with (have _t := tok; at_builtin; (refine app_ints _ rfl (.const (.slice none 0 0)) (.tmp 9) rfl w.heap.size (.slice none 0 0) 0 [] rfl (own_nil _ _ _ _) S.a3 S.c3 G.outs (by rw [← Eno.out]; rfl) HR3.out HNL.out (by rw [← Eno.out]; omega) (Nat.le_refl _) ?_; intro v1 w1 hown hgrow _; have HO1 := hidden hown; have HB1 : Hid (Bl w w1) := none_below hgrow; clear tok hown hgrow))
  have c1 := (HG.out w1 HB1.out).bx.c1
  rw [← Enl.out, ← Ea1.out] at c1
  clear c3
  go_wp2_with fail
  clear c1
  go_loopw [3, 5, 16] (fun v' _ i' w' => ∃ k : Nat, k ≤ nl ∧ i' = .int .i64 (k : Int) ∧ Hid (w'.ownsRow w.heap.size 3 1 v' (no + k) ((G.outs ++ (G.lats.take k).map LatD.next).map zV)) ∧ Hid (Bl w w')) (fun _ _ i' _ => nl - (intOf i').toNat)
  case atStart => exact ⟨0, Nat.zero_le _, rfl, (by have := HO1.out; rw [← Eno.out, Nat.zero_add] at this; show World.ownsRow _ _ _ _ _ _ _; simpa using this), HB1.out⟩
  case round =>
    clear HO1 HB1
    obtain ⟨k, hk, rfl, HO, HB⟩ := hrel
    by_cases hlt : k < nl
    · have hltI : (k : Int) < (nl : Int) := by omega
      obtain ⟨d, hd⟩ := getElem_lt (show k < G.lats.length by rw [← Enl.out]; exact hlt)
      obtain ⟨b, o, ea, hbw, cx, cy⟩ := HRW.out wr HB.out k d hd
      have e2 : IntKind.i64.wrap ((k : Int) + 1) = (k : Int) + 1 := wrapI _ (by omega) (by omega)
      have HNX : Hid (G.outs ++ (G.lats.take (k + 1)).map LatD.next = (G.outs ++ (G.lats.take k).map LatD.next) ++ [d.next]) := by
        show _ = _
        rw [take_next _ _ _ hd, List.map_append, ← List.append_assoc]; rfl
      obtain ⟨xb, Exb⟩ := exh wr.heap.size
      obtain ⟨w2, Ew2⟩ := exh (wr.alloc (.cells #[.int .i64 d.next, .bool d.init] 45))
      have HB2 : Hid (Bl wr w2) := by rw [Ew2.out]; exact (Below.refl _ _).alloc (Nat.le_refl _) _
      have HCX : Hid ((w2.alloc (.cells #[.int .i64 d.next] 3)).cell? ⟨xb + 1, 0, none⟩ = some (.int .i64 d.next)) := by
        have e : xb + 1 = w2.heap.size := by rw [Ew2.out, Exb.out]; simp
        show _ = _
        rw [e, cell_new rfl]; rfl
      have HO2 := hidden (own_below HO.out HB2.out)
      have HBW : Hid (Bl w w2) := Bl.tr HB.out HB2.out
      have hsz : w.heap.size ≤ w2.heap.size + 1 := by have := HBW.out.size; omega
      subst ea
      clear hd HO HB
      have tok : True := trivial
      go_wp2_with (have _t := tok; at_builtin; (rw [← Exb.out, ← Ew2.out]; refine app_int _ rfl (.tmp 20) (.tmp 23) rfl w.heap.size u3 (no + k) _ rfl (HO2.out.alloc _) ⟨xb + 1, 0, none⟩ d.next rfl HCX.out (by omega) (by simpa using hsz) ?_; intro g6 c6 w6 hown hgrow _; have HB6 := hidden (app_bl HBW.out (own_newB HO2.out) hgrow); have HO6 := hidden hown; clear tok hown hgrow))
      go_roundw
      case measure => simp [intOf]; omega
      case rel => exact ⟨k + 1, by omega, by simp, by rw [HNX.out, List.map_append, ← Nat.add_assoc]; exact HO6.out, HB6.out⟩
    · have hge : ¬ (k : Int) < (nl : Int) := by omega
      have HOF : Hid (wr.ownsRow w.heap.size 3 1 u3 (endL G).length ((endL G).map zV)) := by
        have := HO.out
        rw [List.take_of_length_le (by have := Enl.out; omega)] at this
        unfold endL
        rw [List.length_append, List.length_map, ← Eno.out, ← Enl.out]
        have e : nl = k := by omega
        rw [e]; exact this
      clear HO
      go_wp2
      go_ret
      exact ⟨u3, rfl, HOF.out, HB.out⟩
end Go.Proofs.Ytlaljeobdddegaa
