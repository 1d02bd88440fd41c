import Derived.Test.YtlaljeobdddegaaMsB
namespace Go.Proofs.Ytlaljeobdddegaa
open Go.RowKit Mp

theorem info_r0 : (Try.prog.info? 24).map (fun i => (i.zero, i.size, i.bytes)) = some (some (.slice none 0 0), 1, 24) := by kernel_rfl
theorem info_r : ∃ i, Try.prog.info? 24 = some i ∧ i.zero = some (.slice none 0 0) ∧ i.size = 1 ∧ i.bytes = 24 := by
  have h := info_r0
  cases hi : Try.prog.info? 24 with
  | none => rw [hi] at h; cases h
  | some i => rw [hi] at h; simp at h; exact ⟨i, rfl, h.1, h.2.1, h.2.2⟩
theorem rows_u : Try.prog.underlying 60 = some (.slice 24) := Try.underlying60
theorem info_q0 : (Try.prog.info? 60).map (fun i => (i.zero, i.size, i.bytes)) = some (some (.slice none 0 0), 1, 24) := by kernel_rfl
theorem info_q : ∃ i, Try.prog.info? 60 = some i ∧ i.zero = some (.slice none 0 0) ∧ i.size = 1 ∧ i.bytes = 24 := by
  have h := info_q0
  cases hi : Try.prog.info? 60 with
  | none => rw [hi] at h; cases h
  | some i => rw [hi] at h; simp at h; exact ⟨i, rfl, h.1, h.2.1, h.2.2⟩
theorem cuts_u : Try.prog.underlying 59 = some (.slice 60) := Try.underlying59
/-- one row more -/
theorem app_r (w : World) {ops : Array Oper} {rest : List Oper} {o : Oper} {a : Act} {Q : Exit → Act → World → Prop} (hgd : o.guard = none) (s x : Operand)
    (ho : o.op = .call { callee := .builtin .append, args := #[s, x], argTypes := #[60, 60] })
    (base : Nat) (v : Value) (n : Nat) (xs : List Value) (hs : a.eval s = v) (hown : w.ownsRow base 24 1 v n xs) (ad : Addr) (ya : Option Addr) (yl yc : Nat) (hx : a.eval x = .slice (some ad) 1 1) (hy : w.cell? ad = some (.slice ya yl yc)) (hn : n ≤ 900000000000) (hbase : base ≤ w.heap.size)
    (h : ∀ g cap w', w'.ownsRow base 24 1 (.slice (some ⟨g, 0, none⟩) (n + 1) cap) (n + 1) (xs ++ [.slice ya yl yc]) → w.grownBy w' v.ownBlock → (v.ownBlock = some g ∨ g = w.heap.size) → wpList Try.prog ops Q rest (a.put o.dst (.slice (some ⟨g, 0, none⟩) (n + 1) cap)) w') : wpList Try.prog ops Q (o :: rest) a w := by
  obtain ⟨i, hi, hz, hsz, hby⟩ := info_r
  refine wpList_append_lies w hgd s x 60 ho base 24 i _ 1 24 rows_u hi hz hsz hby rfl (by decide) v n xs hs hown ad 1 1 [.slice ya yl yc] hx rfl (fun j u hu => ?_) (by simp [Value.oneCell']) (by decide) (by simp only [maxLen]; omega) (by omega) hbase _ rfl ?_
  · cases j with
    | zero =>
      obtain rfl := Option.some.inj hu
      have : ad.add 0 = ad := by
        unfold Addr.add
        split <;> simp_all
      rw [this]; exact hy
    | succ j => simp at hu
  · intro g cap w' h1 h2 h3 _
    exact h g cap w' h1 h2 h3
/-- one list of rows more -/
theorem app_q (w : World) {ops : Array Oper} {rest : List Oper} {o : Oper} {a : Act} {Q : Exit → Act → World → Prop} (hgd : o.guard = none) (s x : Operand)
    (ho : o.op = .call { callee := .builtin .append, args := #[s, x], argTypes := #[59, 59] })
    (base : Nat) (v : Value) (n : Nat) (xs : List Value) (hs : a.eval s = v) (hown : w.ownsRow base 60 1 v n xs) (ad : Addr) (ya : Option Addr) (yl yc : Nat) (hx : a.eval x = .slice (some ad) 1 1) (hy : w.cell? ad = some (.slice ya yl yc)) (hn : n ≤ 900000000000) (hbase : base ≤ w.heap.size)
    (h : ∀ g cap w', w'.ownsRow base 60 1 (.slice (some ⟨g, 0, none⟩) (n + 1) cap) (n + 1) (xs ++ [.slice ya yl yc]) → w.grownBy w' v.ownBlock → (v.ownBlock = some g ∨ g = w.heap.size) → wpList Try.prog ops Q rest (a.put o.dst (.slice (some ⟨g, 0, none⟩) (n + 1) cap)) w') : wpList Try.prog ops Q (o :: rest) a w := by
  obtain ⟨i, hi, hz, hsz, hby⟩ := info_q
  refine wpList_append_lies w hgd s x 59 ho base 60 i _ 1 24 cuts_u hi hz hsz hby rfl (by decide) v n xs hs hown ad 1 1 [.slice ya yl yc] hx rfl (fun j u hu => ?_) (by simp [Value.oneCell']) (by decide) (by simp only [maxLen]; omega) (by omega) hbase _ rfl ?_
  · cases j with
    | zero =>
      obtain rfl := Option.some.inj hu
      have : ad.add 0 = ad := by
        unfold Addr.add
        split <;> simp_all
      rw [this]; exact hy
    | succ j => simp at hu
  · intro g cap w' h1 h2 h3 _
    exact h g cap w' h1 h2 h3
/-- a row of numbers, by its head -/
structure Hd where
  a : Option Addr
  c : Nat
  l : List Nat
def Hd.v (h : Hd) : Value := .slice h.a h.l.length h.c
def HdsAt (w : World) (hs : List Hd) : Prop := ∀ h, h ∈ hs → NumR w h.a h.l ∧ h.l.length ≤ 4
theorem HdsAt.to {w w' : World} {hs : List Hd} (h : HdsAt w hs) (hb : Bl w w') : HdsAt w' hs := fun x hx => ⟨(h x hx).1.to hb, (h x hx).2⟩
theorem own_g {α : Type} {g : α → Value} {w : World} {C n : Nat} {e : TypeId} {v : Value} {l : List α} (h : w.ownsRow C e 1 v n (l.map g)) : ∃ a c, v = .slice a n c ∧ n = l.length ∧ ∀ k y, l[k]? = some y → ∃ b, a = some ⟨b, 0, none⟩ ∧ w.cell? ⟨b, k, none⟩ = some (g y) := by
  have hl : n = l.length := by have := h.1; simp at this; omega
  rcases h.2 with ⟨rfl, h0⟩ | ⟨b, cap, cur, rfl, _, hg, _, _, h3, h4⟩
  · subst h0
    exact ⟨none, 0, rfl, hl, fun k y hy => by rw [List.eq_nil_of_length_eq_zero hl.symm] at hy; simp at hy⟩
  · refine ⟨some ⟨b, 0, none⟩, cap, rfl, hl, fun k y hy => ⟨b, rfl, ?_⟩⟩
    have hk := (List.getElem?_eq_some_iff.1 hy).1
    have h5 : (l.map g)[k]? = some (g y) := by rw [List.getElem?_map, hy]; rfl
    rw [← h4, List.getElem?_take_of_lt (by omega), Array.getElem?_toList] at h5
    simp [World.cell?, hg, h5]
theorem filterH_next {α : Type} (p : α → Bool) {l : List α} {k : Nat} {x : α} (h : l[k]? = some x) : (l.take (k + 1)).filter p = (l.take k).filter p ++ (if p x then [x] else []) := by
  rw [take_next _ _ _ h, List.filter_append]
  congr 1
  cases hp : p x <;> simp [hp]
set_option maxRecDepth 100000 in
set_option maxHeartbeats 8000000 in
theorem addCut_any (C : Nat) (w : World) (v : Value) (hs : List Hd) (c : Hd) (hC : C ≤ w.heap.size) (ho : w.ownsRow C 24 1 v hs.length (hs.map Hd.v)) (hr : HdsAt w hs) (hc : NumR w c.a c.l) (hcl : c.l.length ≤ 4) (hlen : hs.length ≤ 800000000000) :
    Calls Try.prog 27 #[v, c.v] w fun e w' => ∃ v' hs', e = .returned v' ∧ Hid (w'.ownsRow C 24 1 v' hs'.length (hs'.map Hd.v)) ∧ Hid (hs'.map Hd.l = addC (hs.map Hd.l) c.l) ∧ Hid (HdsAt w' hs') ∧ Hid ((v' = v ∧ hs' = hs) ∨ (NewB w.heap.size v' ∧ ∀ x, x ∈ hs' → x ∈ hs ∨ x = c)) ∧ Hid (Bl w w') := by
  obtain ⟨a, cc, rfl, _, hcell⟩ := own_g ho
  have HO := hidden ho
  have HR := hidden hr
  have HCN := hidden hc
  have HW1 : Hid (∀ (u : World) (h : Hd), Bl w u → h ∈ hs → Calls Try.prog 45 #[.slice h.a h.l.length h.c, .slice c.a c.l.length c.c] u fun e w' => e = .returned (.bool (wit h.l c.l)) ∧ Bl u w') := fun u h hu hh => withinD_any u _ _ _ _ _ _ ((hr h hh).1.to hu) (hc.to hu) (by have := (hr h hh).2; omega) (by omega)
  have HW2 : Hid (∀ (u : World) (h : Hd), Bl w u → h ∈ hs → Calls Try.prog 45 #[.slice c.a c.l.length c.c, .slice h.a h.l.length h.c] u fun e w' => e = .returned (.bool (wit c.l h.l)) ∧ Bl u w') := fun u h hu hh => withinD_any u _ _ _ _ _ _ (hc.to hu) ((hr h hh).1.to hu) (by omega) (by have := (hr h hh).2; omega)
  have HCE : Hid (∀ (u : World) (k : Nat) (h : Hd), Bl w u → hs[k]? = some h → ∃ b, a = some ⟨b, 0, none⟩ ∧ u.cell? ⟨b, k, none⟩ = some (.slice h.a h.l.length h.c)) := fun u k h hu hh => by
    obtain ⟨b, e, hx⟩ := hcell k h hh
    exact ⟨b, e, (hu.cell (p := ⟨b, k, none⟩) (cell_lt hx)).trans hx⟩
  obtain ⟨n, En⟩ := exh hs.length
  rw [← En.out] at HO hlen
  rw [← En.out]
  obtain ⟨ca, Eca⟩ := exh c.a
  obtain ⟨cl, Ecl⟩ := exh c.l.length
  obtain ⟨cd, Ecd⟩ := exh c.c
  rw [← Eca.out, ← Ecl.out, ← Ecd.out] at HW1 HW2
  unfold Hd.v
  rw [← Eca.out, ← Ecl.out, ← Ecd.out]
  clear ho hr hc hcell
  go_enter Try.func27, Try.ntmps27
  go_wp2_with fail
  go_loopw [5] (fun i' w' => ∃ i : Nat, i ≤ n ∧ i' = .int .i64 (i : Int) ∧ Hid ((hs.take i).any (fun h => wit h.l c.l) = false) ∧ Hid (Bl w w')) (fun i' _ => n - (intOf i').toNat)
  case atStart => exact ⟨0, Nat.zero_le _, rfl, (by show (hs.take 0).any _ = false; rfl), Below.refl _ _⟩
  case round =>
    obtain ⟨i, hi, rfl, HN, HB⟩ := hrel
    by_cases hlt : i < n
    · have hltI : (i : Int) < (n : Int) := by omega
      obtain ⟨h, hh⟩ := getElem_lt (show i < hs.length by rw [← En.out]; exact hlt)
      obtain ⟨b, ea, cx⟩ := HCE.out wr i h HB.out hh
      have WI := hidden (HW1.out wr h HB.out (List.mem_of_getElem? hh))
      have HH := hidden hh
      have e2 : IntKind.i64.wrap ((i : Int) + 1) = (i : Int) + 1 := wrapI _ (by omega) (by omega)
      subst ea
      clear hh
      go_wp2_with fail
      go_at_call 45
      refine WI.out.mono ?_
      rintro e w1 ⟨rfl, hb1⟩
      have HB1 : Hid (Bl w w1) := Bl.tr HB.out hb1
      obtain ⟨r, Er⟩ := exh (wit h.l c.l)
      rw [← Er.out]
      clear hb1 WI cx
      cases r
      · have HN2 : Hid ((hs.take (i + 1)).any (fun h => wit h.l c.l) = false) := by
          show _ = _
          rw [take_next _ _ _ HH.out, List.any_append, HN.out, Bool.false_or]
          show (wit h.l c.l || false) = false
          rw [← Er.out]; rfl
        go_wp2
        go_roundw
        case measure => simp [intOf]; omega
        case rel => exact ⟨i + 1, by omega, by simp, HN2.out, HB1.out⟩
      · have HAD : Hid (hs.map Hd.l = addC (hs.map Hd.l) c.l) := by
          show _ = _
          unfold addC
          rw [if_pos]
          rw [List.any_map, List.any_eq_true]
          exact ⟨h, List.mem_of_getElem? HH.out, Er.out.symm⟩
        have HOF := hidden (own_below HO.out HB1.out)
        go_wp2
        go_ret
        exact ⟨_, hs, rfl, by rw [← En.out]; exact HOF.out, HAD.out, HR.out.to HB1.out, Or.inl ⟨rfl, rfl⟩, HB1.out⟩
    · have hge : ¬ (i : Int) < (n : Int) := by omega
      have HNO : Hid (addC (hs.map Hd.l) c.l = (hs.filter (fun h => !wit c.l h.l)).map Hd.l ++ [c.l]) := by
        show _ = _
        unfold addC
        have h0 := HN.out
        rw [List.take_of_length_le (by have := En.out; omega)] at h0
        rw [if_neg (by rw [List.any_map]; show ¬ hs.any (fun h => wit h.l c.l) = true; rw [h0]; simp), List.filter_map]
        rfl
      clear HN
      go_wp2_with fail
      go_loopw [6, 7] (fun v' k' w' => ∃ k : Nat, k ≤ n ∧ k' = .int .i64 (k : Int) ∧ Hid (w'.ownsRow w.heap.size 24 1 v' ((hs.take k).filter (fun h => !wit c.l h.l)).length (((hs.take k).filter (fun h => !wit c.l h.l)).map Hd.v)) ∧ Hid (Bl w w')) (fun _ k' _ => n - (intOf k').toNat)
      case atStart => exact ⟨0, Nat.zero_le _, rfl, own_nil _ _ _ _, HB.out⟩
      case round =>
        clear HB
        obtain ⟨k, hk, rfl, HO2, HB⟩ := hrel
        obtain ⟨fs, Efs⟩ := exh ((hs.take k).filter (fun h => !wit c.l h.l))
        rw [← Efs.out] at HO2
        obtain ⟨nf, Enf⟩ := exh fs.length
        rw [← Enf.out] at HO2
        have hnf : nf ≤ n := by
          rw [Enf.out, Efs.out]
          refine Nat.le_trans (List.length_filter_le _ _) ?_
          rw [List.length_take]; omega
        by_cases hlk : k < n
        · have hlkI : (k : Int) < (n : Int) := by omega
          obtain ⟨h, hh⟩ := getElem_lt (show k < hs.length by rw [← En.out]; exact hlk)
          obtain ⟨b, ea, cx⟩ := HCE.out wr k h HB.out hh
          have WI := hidden (HW2.out wr h HB.out (List.mem_of_getElem? hh))
          have HH := hidden hh
          have e2 : IntKind.i64.wrap ((k : Int) + 1) = (k : Int) + 1 := wrapI _ (by omega) (by omega)
          have HFN := hidden (filterH_next (fun h => !wit c.l h.l) hh)
          have HCX : Hid (∀ u, Bl w u → u.cell? ⟨b, k, none⟩ = some (.slice h.a h.l.length h.c)) := fun u hu => by
            obtain ⟨b', e', c'⟩ := HCE.out u k h hu hh
            rw [ea] at e'
            simp only [Option.some.injEq, Addr.mk.injEq, and_true] at e'
            obtain rfl := e'
            exact c'
          subst ea
          clear hh
          go_wp2_with fail
          go_at_call 45
          refine WI.out.mono ?_
          rintro e w1 ⟨rfl, hb1⟩
          have HB1 : Hid (Bl w w1) := Bl.tr HB.out hb1
          have HO3 := hidden (own_below HO2.out hb1)
          obtain ⟨r, Er⟩ := exh (wit c.l h.l)
          rw [← Er.out]
          have cx1 := HCX.out w1 HB1.out
          clear hb1 WI cx HB HO2
          cases r
          · have HF2 : Hid ((hs.take (k + 1)).filter (fun h => !wit c.l h.l) = fs ++ [h]) := by
              show _ = _
              rw [HFN.out, ← Efs.out]
              show fs ++ (if !wit c.l h.l then [h] else []) = _
              rw [← Er.out]; rfl
            have hsz : w.heap.size ≤ w1.heap.size + 1 := by have := HB1.out.size; omega
            obtain ⟨hha, Eha⟩ := exh h.a
            obtain ⟨hhl, Ehl⟩ := exh h.l.length
            obtain ⟨hhc, Ehc⟩ := exh h.c
            rw [← Eha.out, ← Ehl.out, ← Ehc.out] at cx1
            have HC : Hid ((w1.alloc (.cells #[.slice hha hhl hhc] 24)).cell? ⟨w1.heap.size, 0, none⟩ = some (.slice hha hhl hhc)) := (Blk.new w1 _ _).cell (i := 0) rfl
            have tok : True := trivial
            go_wp2_with (have _t := tok; at_builtin; (refine app_r _ rfl (.tmp 34) (.tmp 39) rfl w.heap.size u6 nf _ rfl (HO3.out.alloc _) ⟨w1.heap.size, 0, none⟩ hha hhl hhc rfl HC.out (by omega) (by simpa using hsz) ?_; intro g6 c6 w6 hown hgrow _; have HB6 := hidden (app_bl HB1.out (own_newB HO3.out) hgrow); have HO6 := hidden hown; clear tok hown hgrow))
            go_roundw
            case measure => simp [intOf]; omega
            case rel => exact ⟨k + 1, by omega, by simp, (by rw [HF2.out, List.length_append, List.length_singleton, List.map_append, ← Enf.out]; show World.ownsRow _ _ _ _ _ _ (fs.map Hd.v ++ [.slice h.a h.l.length h.c]); rw [← Eha.out, ← Ehl.out, ← Ehc.out]; exact HO6.out), HB6.out⟩
          · have HF2 : Hid ((hs.take (k + 1)).filter (fun h => !wit c.l h.l) = fs) := by
              show _ = _
              rw [HFN.out, ← Efs.out]
              show fs ++ (if !wit c.l h.l then [h] else []) = _
              rw [← Er.out]; simp
            go_wp2
            go_roundw
            case measure => simp [intOf]; omega
            case rel => exact ⟨k + 1, by omega, by simp, (by rw [HF2.out, ← Enf.out]; exact HO3.out), HB1.out⟩
        · have hgk : ¬ (k : Int) < (n : Int) := by omega
          have HFA : Hid (fs = hs.filter (fun h => !wit c.l h.l)) := by
            show _ = _
            rw [Efs.out, List.take_of_length_le (by have := En.out; omega)]
          have hsz : w.heap.size ≤ wr.heap.size + 1 := by have := HB.out.size; omega
          have HC : Hid ((wr.alloc (.cells #[.slice ca cl cd] 24)).cell? ⟨wr.heap.size, 0, none⟩ = some (.slice ca cl cd)) := (Blk.new wr _ _).cell (i := 0) rfl
          have tok : True := trivial
          go_wp2_with (have _t := tok; at_builtin; (refine app_r _ rfl (.tmp 41) (.tmp 43) rfl w.heap.size u6 nf _ rfl (HO2.out.alloc _) ⟨wr.heap.size, 0, none⟩ ca cl cd rfl HC.out (by omega) (by simpa using hsz) ?_; intro g6 c6 w6 hown hgrow _; have HB6 := hidden (app_bl HB.out (own_newB HO2.out) hgrow); have HO6 := hidden hown; clear tok hown hgrow))
          go_ret
          exact ⟨_, rfl, fs ++ [c], (by rw [List.length_append, List.length_singleton, List.map_append, ← Enf.out]; show World.ownsRow _ _ _ _ _ _ (fs.map Hd.v ++ [.slice c.a c.l.length c.c]); rw [← Eca.out, ← Ecl.out, ← Ecd.out]; exact own_mono HO6.out hC), (by rw [HNO.out, List.map_append, HFA.out]; exact (rfl : _ = _)), (fun x hx => by
            rcases List.mem_append.1 hx with hx | hx
            · rw [HFA.out] at hx
              exact HR.out.to HB6.out x (List.mem_filter.1 hx).1
            · obtain rfl := List.mem_singleton.1 hx
              exact ⟨HCN.out.to HB6.out, by rw [← Ecl.out]; have := Ecl.out; omega⟩), Or.inr ⟨own_newB HO6.out, fun x hx => by
            rcases List.mem_append.1 hx with hx | hx
            · rw [HFA.out] at hx
              exact Or.inl (List.mem_filter.1 hx).1
            · exact Or.inr (List.mem_singleton.1 hx)⟩, HB6.out⟩
end Go.Proofs.Ytlaljeobdddegaa
