import Derived.Test.YtmifbcpinhpnnaaDoorArF
import Derived.Test.YtmifbcpinhpnnaaDoorArD
namespace Go.Proofs.YtmifbcpinhpnnaaDoor
open Go.RowKit

theorem word_any (l : Int) (hl : l = 0 ∨ l = 1) (w : World) : Calls Tryd.prog 25 #[.int .i64 l] w fun e w' => e = .returned (.string (bs (if l = 0 then [97, 97, 103] else [97, 105, 103]))) ∧ w' = w := by
  rcases hl with rfl | rfl
  · go_enter Tryd.func25, Tryd.ntmps25
    go_wp2
    go_ret
    exact ⟨rfl, rfl⟩
  · go_enter Tryd.func25, Tryd.ntmps25
    go_wp2
    go_ret
    exact ⟨rfl, rfl⟩

set_option maxRecDepth 100000 in
set_option maxHeartbeats 4000000 in
theorem headOf_any (w : World) (gb : Nat) (S : GrS) (G : GrD) (ni n : Nat) (hF : FineG G ni n) (h : BoxAt w gb S G) :
    Calls Tryd.prog 24 #[.pointer (some ⟨gb, 0, none⟩)] w fun e w' => e = .returned (.agg #[.int .i64 ((ni : Int) + (G.lats.length : Int) + (G.ands.length : Int)), .int .i64 (ni : Int), .int .i64 (G.lats.length : Int), .int .i64 (G.outs.length : Int), .int .i64 (G.ands.length : Int)]) ∧ Below w.heap.size w w' := by
  have f1 := hF.first
  have f2 := hF.all
  have f3 := hF.le
  have f4 := hF.ll
  have f5 := hF.lo
  have q0 := h.c0
  rw [hF.ins] at q0
  have q1 := h.c1
  have q2 := h.c2
  have q3 := h.c3
  have hgb := h.lt
  have eA : IntKind.i64.wrap ((ni : Int) + (G.lats.length : Int)) = (ni : Int) + (G.lats.length : Int) := wrapI _ (by omega) (by omega)
  have eB : IntKind.i64.wrap ((ni : Int) + (G.lats.length : Int) + (G.ands.length : Int)) = (ni : Int) + (G.lats.length : Int) + (G.ands.length : Int) := wrapI _ (by omega) (by omega)
  clear h hF f1 f2
  go_enter Tryd.func24, Tryd.ntmps24
  go_upto_region 1 with fail
  go_region_held3 (fun w' => ∀ b' o, b' < w.heap.size → w'.cell? ⟨b', o, none⟩ = w.cell? ⟨b', o, none⟩)
    (first | assumption | (intro b' o h1; exact (((Below.refl w.heap.size w).alloc (Nat.le_refl _) _).drew).cell (p := ⟨b', o, none⟩) h1))
    (fail)
  go_wp2_with fail
  refine bodyPost_ret (v := .agg #[.int .i64 ((ni : Int) + (G.lats.length : Int) + (G.ands.length : Int)), .int .i64 (ni : Int), .int .i64 (G.lats.length : Int), .int .i64 (G.outs.length : Int), .int .i64 (G.ands.length : Int)]) (by simp [results, Tryd.results24, go_sem, *]) rfl ?_
  exact ⟨rfl, ((Below.refl w.heap.size w).alloc (Nat.le_refl _) _).drew⟩

set_option maxRecDepth 100000 in
theorem latch_any (w : World) (hb ni i : Nat) (c1 : w.cell? ⟨hb, 1, none⟩ = some (.int .i64 (ni : Int))) (hi : ni ≤ 60000) (h2 : i ≤ 60000) :
    Calls Tryd.prog 28 #[.pointer (some ⟨hb, 0, none⟩), .int .i64 (i : Int)] w fun e w' => e = .returned (.int .i64 (2 * (1 + (ni : Int) + (i : Int)))) ∧ w' = w := by
  have eA : IntKind.i64.wrap ((1 : Int) + (ni : Int)) = (1 : Int) + (ni : Int) := wrapI _ (by omega) (by omega)
  have eB : IntKind.i64.wrap ((1 : Int) + (ni : Int) + (i : Int)) = (1 : Int) + (ni : Int) + (i : Int) := wrapI _ (by omega) (by omega)
  have eC : IntKind.i64.wrap (2 * ((1 : Int) + (ni : Int) + (i : Int))) = 2 * ((1 : Int) + (ni : Int) + (i : Int)) := wrapI _ (by omega) (by omega)
  go_enter Tryd.func28, Tryd.ntmps28
  go_wp2
  go_ret
  exact ⟨rfl, rfl⟩
set_option maxRecDepth 100000 in
theorem gate_any (w : World) (hb ni nl i : Nat) (c1 : w.cell? ⟨hb, 1, none⟩ = some (.int .i64 (ni : Int))) (c2 : w.cell? ⟨hb, 2, none⟩ = some (.int .i64 (nl : Int))) (hi : ni ≤ 60000) (h2 : i ≤ 60000) (h3 : nl ≤ 60000) :
    Calls Tryd.prog 30 #[.pointer (some ⟨hb, 0, none⟩), .int .i64 (i : Int)] w fun e w' => e = .returned (.int .i64 (2 * (1 + (ni : Int) + (nl : Int) + (i : Int)))) ∧ ∃ k, w' = w.drewN k := by
  have eA : IntKind.i64.wrap ((1 : Int) + (ni : Int)) = (1 : Int) + (ni : Int) := wrapI _ (by omega) (by omega)
  have eB : IntKind.i64.wrap ((1 : Int) + (ni : Int) + (nl : Int)) = (1 : Int) + (ni : Int) + (nl : Int) := wrapI _ (by omega) (by omega)
  have eD : IntKind.i64.wrap ((1 : Int) + (ni : Int) + (nl : Int) + (i : Int)) = (1 : Int) + (ni : Int) + (nl : Int) + (i : Int) := wrapI _ (by omega) (by omega)
  have eC : IntKind.i64.wrap (2 * ((1 : Int) + (ni : Int) + (nl : Int) + (i : Int))) = 2 * ((1 : Int) + (ni : Int) + (nl : Int) + (i : Int)) := wrapI _ (by omega) (by omega)
  go_enter Tryd.func30, Tryd.ntmps30
  go_wp2
  go_quiet (fail)
  go_wp2
  go_ret
  exact ⟨rfl, _, rfl⟩
theorem info_int1 : (Tryd.prog.info? 3).map (fun i => (i.zero, i.size, i.bytes)) = some (some (.int .i64 0), 1, 8) := by kernel_rfl
theorem info_int : ∃ i, Tryd.prog.info? 3 = some i ∧ i.zero = some (.int .i64 0) ∧ i.size = 1 ∧ i.bytes = 8 := by
  have h := info_int1
  cases hi : Tryd.prog.info? 3 with
  | none => rw [hi] at h; cases h
  | some i => rw [hi] at h; simp at h; exact ⟨i, rfl, h.1, h.2.1, h.2.2⟩
def intV (x : Int) : Value := .int .i64 x
/-- the numbers of a latch's line -/
def latN (l own : Int) (d : LatD) : List Int := (if l = 0 then [own] else []) ++ [d.next] ++ (if d.init then [1] else [])

set_option maxRecDepth 100000 in
set_option maxHeartbeats 8000000 in
theorem appendLatch_any (B : Nat) (w : World) (v : Value) (t : List UInt8) (h : Txt B w v t) (hB : B ≤ w.heap.size) (hG : Tryd.prog.globals.size ≤ B) (hl : t.length ≤ 50000000) (ht : Tens w) (l : Int) (hll : l = 0 ∨ l = 1) (own : Int) (ho : 0 ≤ own ∧ own < 4294967296) (d : LatD) (hd : 0 ≤ d.next ∧ d.next < 4294967296) (rb ro : Nat) (hrb : rb < w.heap.size) (c0 : w.cell? ⟨rb, ro, none⟩ = some (.int .i64 d.next)) (c1 : w.cell? ⟨rb, ro + 1, none⟩ = some (.bool d.init)) :
    Calls Tryd.prog 27 #[v, .int .i64 l, .int .i64 own, .pointer (some ⟨rb, ro, none⟩)] w fun e w' => ∃ v', e = .returned v' ∧ Txt B w' v' (t ++ lineT (latN l own d)) ∧ Step w v w' v' := by
  obtain ⟨nx, ini⟩ := d
  simp only at hd c0 c1
  obtain ⟨i3, hi3, hz3, hs3, hb3⟩ := info_int
  have HI2 := hidden hi3
  have HZ2 := hidden hz3
  have HS2 := hidden hs3
  have HBY2 := hidden hb3
  have HTX := hidden h
  have HTE := hidden ht
  clear hi3 hz3 hs3 hb3 h ht
  rcases hll with rfl | rfl
  · cases ini
    · show Calls _ _ _ _ fun e w' => ∃ v', e = .returned v' ∧ Txt B w' v' (t ++ lineT [own, nx]) ∧ Step w v w' v'
      go_enter Tryd.func27, Tryd.ntmps27
      have HB0 : Hid (Below w.heap.size w w) := Below.refl _ _
      have HO0 : Hid (w.ownsRow w.heap.size 3 1 (.slice none 0 0) 0 []) := World.ownsRow_nil _ _ _ _
      have hm11 : 0 + 1 ≤ maxLen := by simp only [maxLen]; omega
      have hm21 : (0 + 1) * 8 ≤ 140737488355328 := by omega
      have hm31 : w.heap.size ≤ (w.alloc (.cells #[.int .i64 own] 3)).heap.size := by first | (simp; done) | (simp; omega)
      have tok : True := trivial
      go_upto_region 4 with (have _t := tok; at_builtin; (refine wpList_append_lies _ rfl (.tmp 12) (.tmp 14) 24 rfl w.heap.size 3 i3 _ 1 8 Tryd.underlying24 HI2.out HZ2.out HS2.out HBY2.out rfl (by decide) (.slice none 0 0) 0 _ rfl (HO0.out.alloc _) ⟨w.heap.size, 0, none⟩ 1 1 [.int .i64 own] rfl rfl (World.news_of_block (heap_new _ _)) (by simp [Value.oneCell']) (by decide) hm11 hm21 hm31 _ rfl ?_; intro g1 cap1 w1 hown1 hgrow1 hat1 hlt1; clear tok))
      have HB1 : Hid (Below w.heap.size w w1) := grown_plain HB0.out HO0.out hgrow1
      have hs1 := HB1.out.size
      have HO1 : Hid (w1.ownsRow w.heap.size 3 1 (.slice (some ⟨g1, 0, none⟩) 1 cap1) 1 [.int .i64 own]) := hown1
      clear hown1 hgrow1 hat1 hlt1 hm11 hm21 hm31
      have cn := (HB1.out.cell (p := ⟨rb, ro, none⟩) hrb).trans c0
      have hm12 : 1 + 1 ≤ maxLen := by simp only [maxLen]; omega
      have hm22 : (1 + 1) * 8 ≤ 140737488355328 := by omega
      have hm32 : w.heap.size ≤ (w1.alloc (.cells #[.int .i64 nx] 3)).heap.size := by first | (simp; done) | (simp; omega)
      have tok : True := trivial
      go_upto_region 5 with (have _t := tok; at_builtin; (refine wpList_append_lies _ rfl (.tmp 16) (.tmp 21) 24 rfl w.heap.size 3 i3 _ 1 8 Tryd.underlying24 HI2.out HZ2.out HS2.out HBY2.out rfl (by decide) (.slice (some ⟨g1, 0, none⟩) 1 cap1) 1 _ rfl (HO1.out.alloc _) ⟨w1.heap.size, 0, none⟩ 1 1 [.int .i64 nx] rfl rfl (World.news_of_block (heap_new _ _)) (by simp [Value.oneCell']) (by decide) hm12 hm22 hm32 _ rfl ?_; intro g2 cap2 w2 hown2 hgrow2 hat2 hlt2; clear tok))
      have HB2 : Hid (Below w.heap.size w w2) := grown_plain HB1.out HO1.out hgrow2
      have hs2 := HB2.out.size
      have HO2 : Hid (w2.ownsRow w.heap.size 3 1 (.slice (some ⟨g2, 0, none⟩) 2 cap2) 2 [.int .i64 own, .int .i64 nx]) := hown2
      clear hown2 hgrow2 hat2 hlt2 hm12 hm22 hm32
      clear cn
      have ci := (HB2.out.cell (p := ⟨rb, ro + 1, none⟩) hrb).trans c1
      have hlg := HO2.out.lt g2 rfl
      have AL : Hid (Calls Tryd.prog 26 #[v, .slice (some ⟨g2, 0, none⟩) 2 cap2] w2 fun e w' => ∃ v', e = .returned v' ∧ Txt B w' v' (t ++ lineT [own, nx]) ∧ Step w2 v w' v') :=
        appendLine_any B w2 v t (HTX.out.to HB2.out) (by omega) hG hl (HTE.out.to HB2.out (by omega)) [own, nx] g2 0 cap2 hlg.2 (fun e => by have := (OwnM.lt HTX.out g2 e).2; omega) (fun j x hx => by
          have hj := (List.getElem?_eq_some_iff.1 hx).1
          rw [Nat.zero_add, HO2.out.cellAt j (by simpa using hj)]
          have := congrArg (Option.map intV) hx
          rw [← List.getElem?_map] at this
          exact this) (by intro x hx; simp only [List.mem_cons, List.not_mem_nil, or_false] at hx; omega) (by simp)
      skip
      go_wp2_with fail
      go_at_call 26
      refine AL.out.mono ?_
      rintro e w9 ⟨v9, rfl, hT9, hS9⟩
      go_wp2
      go_ret
      exact ⟨v9, rfl, hT9, (Step.same HB2.out).trans hS9⟩
    · show Calls _ _ _ _ fun e w' => ∃ v', e = .returned v' ∧ Txt B w' v' (t ++ lineT [own, nx, 1]) ∧ Step w v w' v'
      go_enter Tryd.func27, Tryd.ntmps27
      have HB0 : Hid (Below w.heap.size w w) := Below.refl _ _
      have HO0 : Hid (w.ownsRow w.heap.size 3 1 (.slice none 0 0) 0 []) := World.ownsRow_nil _ _ _ _
      have hm11 : 0 + 1 ≤ maxLen := by simp only [maxLen]; omega
      have hm21 : (0 + 1) * 8 ≤ 140737488355328 := by omega
      have hm31 : w.heap.size ≤ (w.alloc (.cells #[.int .i64 own] 3)).heap.size := by first | (simp; done) | (simp; omega)
      have tok : True := trivial
      go_upto_region 4 with (have _t := tok; at_builtin; (refine wpList_append_lies _ rfl (.tmp 12) (.tmp 14) 24 rfl w.heap.size 3 i3 _ 1 8 Tryd.underlying24 HI2.out HZ2.out HS2.out HBY2.out rfl (by decide) (.slice none 0 0) 0 _ rfl (HO0.out.alloc _) ⟨w.heap.size, 0, none⟩ 1 1 [.int .i64 own] rfl rfl (World.news_of_block (heap_new _ _)) (by simp [Value.oneCell']) (by decide) hm11 hm21 hm31 _ rfl ?_; intro g1 cap1 w1 hown1 hgrow1 hat1 hlt1; clear tok))
      have HB1 : Hid (Below w.heap.size w w1) := grown_plain HB0.out HO0.out hgrow1
      have hs1 := HB1.out.size
      have HO1 : Hid (w1.ownsRow w.heap.size 3 1 (.slice (some ⟨g1, 0, none⟩) 1 cap1) 1 [.int .i64 own]) := hown1
      clear hown1 hgrow1 hat1 hlt1 hm11 hm21 hm31
      have cn := (HB1.out.cell (p := ⟨rb, ro, none⟩) hrb).trans c0
      have hm12 : 1 + 1 ≤ maxLen := by simp only [maxLen]; omega
      have hm22 : (1 + 1) * 8 ≤ 140737488355328 := by omega
      have hm32 : w.heap.size ≤ (w1.alloc (.cells #[.int .i64 nx] 3)).heap.size := by first | (simp; done) | (simp; omega)
      have tok : True := trivial
      go_upto_region 5 with (have _t := tok; at_builtin; (refine wpList_append_lies _ rfl (.tmp 16) (.tmp 21) 24 rfl w.heap.size 3 i3 _ 1 8 Tryd.underlying24 HI2.out HZ2.out HS2.out HBY2.out rfl (by decide) (.slice (some ⟨g1, 0, none⟩) 1 cap1) 1 _ rfl (HO1.out.alloc _) ⟨w1.heap.size, 0, none⟩ 1 1 [.int .i64 nx] rfl rfl (World.news_of_block (heap_new _ _)) (by simp [Value.oneCell']) (by decide) hm12 hm22 hm32 _ rfl ?_; intro g2 cap2 w2 hown2 hgrow2 hat2 hlt2; clear tok))
      have HB2 : Hid (Below w.heap.size w w2) := grown_plain HB1.out HO1.out hgrow2
      have hs2 := HB2.out.size
      have HO2 : Hid (w2.ownsRow w.heap.size 3 1 (.slice (some ⟨g2, 0, none⟩) 2 cap2) 2 [.int .i64 own, .int .i64 nx]) := hown2
      clear hown2 hgrow2 hat2 hlt2 hm12 hm22 hm32
      clear cn
      have ci := (HB2.out.cell (p := ⟨rb, ro + 1, none⟩) hrb).trans c1
      have hm13 : 2 + 1 ≤ maxLen := by simp only [maxLen]; omega
      have hm23 : (2 + 1) * 8 ≤ 140737488355328 := by omega
      have hm33 : w.heap.size ≤ (w2.alloc (.cells #[.int .i64 1] 3)).heap.size := by first | (simp; done) | (simp; omega)
      have tok : True := trivial
      go_upto_region 7 with (have _t := tok; at_builtin; (refine wpList_append_lies _ rfl (.tmp 27) (.tmp 28) 24 rfl w.heap.size 3 i3 _ 1 8 Tryd.underlying24 HI2.out HZ2.out HS2.out HBY2.out rfl (by decide) (.slice (some ⟨g2, 0, none⟩) 2 cap2) 2 _ rfl (HO2.out.alloc _) ⟨w2.heap.size, 0, none⟩ 1 1 [.int .i64 1] rfl rfl (World.news_of_block (heap_new _ _)) (by simp [Value.oneCell']) (by decide) hm13 hm23 hm33 _ rfl ?_; intro g3 cap3 w3 hown3 hgrow3 hat3 hlt3; clear tok))
      have HB3 : Hid (Below w.heap.size w w3) := grown_plain HB2.out HO2.out hgrow3
      have hs3 := HB3.out.size
      have HO3 : Hid (w3.ownsRow w.heap.size 3 1 (.slice (some ⟨g3, 0, none⟩) 3 cap3) 3 [.int .i64 own, .int .i64 nx, .int .i64 1]) := hown3
      clear hown3 hgrow3 hat3 hlt3 hm13 hm23 hm33
      have hlg := HO3.out.lt g3 rfl
      have AL : Hid (Calls Tryd.prog 26 #[v, .slice (some ⟨g3, 0, none⟩) 3 cap3] w3 fun e w' => ∃ v', e = .returned v' ∧ Txt B w' v' (t ++ lineT [own, nx, (1 : Int)]) ∧ Step w3 v w' v') :=
        appendLine_any B w3 v t (HTX.out.to HB3.out) (by omega) hG hl (HTE.out.to HB3.out (by omega)) [own, nx, (1 : Int)] g3 0 cap3 hlg.2 (fun e => by have := (OwnM.lt HTX.out g3 e).2; omega) (fun j x hx => by
          have hj := (List.getElem?_eq_some_iff.1 hx).1
          rw [Nat.zero_add, HO3.out.cellAt j (by simpa using hj)]
          have := congrArg (Option.map intV) hx
          rw [← List.getElem?_map] at this
          exact this) (by intro x hx; simp only [List.mem_cons, List.not_mem_nil, or_false] at hx; omega) (by simp)
      clear ci
      go_wp2_with fail
      go_at_call 26
      refine AL.out.mono ?_
      rintro e w9 ⟨v9, rfl, hT9, hS9⟩
      go_wp2
      go_ret
      exact ⟨v9, rfl, hT9, (Step.same HB3.out).trans hS9⟩
  · cases ini
    · show Calls _ _ _ _ fun e w' => ∃ v', e = .returned v' ∧ Txt B w' v' (t ++ lineT [nx]) ∧ Step w v w' v'
      go_enter Tryd.func27, Tryd.ntmps27
      have HB0 : Hid (Below w.heap.size w w) := Below.refl _ _
      have HO0 : Hid (w.ownsRow w.heap.size 3 1 (.slice none 0 0) 0 []) := World.ownsRow_nil _ _ _ _
      have cn := (HB0.out.cell (p := ⟨rb, ro, none⟩) hrb).trans c0
      have hm11 : 0 + 1 ≤ maxLen := by simp only [maxLen]; omega
      have hm21 : (0 + 1) * 8 ≤ 140737488355328 := by omega
      have hm31 : w.heap.size ≤ (w.alloc (.cells #[.int .i64 nx] 3)).heap.size := by first | (simp; done) | (simp; omega)
      have tok : True := trivial
      go_upto_region 5 with (have _t := tok; at_builtin; (refine wpList_append_lies _ rfl (.tmp 16) (.tmp 21) 24 rfl w.heap.size 3 i3 _ 1 8 Tryd.underlying24 HI2.out HZ2.out HS2.out HBY2.out rfl (by decide) (.slice none 0 0) 0 _ rfl (HO0.out.alloc _) ⟨w.heap.size, 0, none⟩ 1 1 [.int .i64 nx] rfl rfl (World.news_of_block (heap_new _ _)) (by simp [Value.oneCell']) (by decide) hm11 hm21 hm31 _ rfl ?_; intro g1 cap1 w1 hown1 hgrow1 hat1 hlt1; clear tok))
      have HB1 : Hid (Below w.heap.size w w1) := grown_plain HB0.out HO0.out hgrow1
      have hs1 := HB1.out.size
      have HO1 : Hid (w1.ownsRow w.heap.size 3 1 (.slice (some ⟨g1, 0, none⟩) 1 cap1) 1 [.int .i64 nx]) := hown1
      clear hown1 hgrow1 hat1 hlt1 hm11 hm21 hm31
      clear cn
      have ci := (HB1.out.cell (p := ⟨rb, ro + 1, none⟩) hrb).trans c1
      have hlg := HO1.out.lt g1 rfl
      have AL : Hid (Calls Tryd.prog 26 #[v, .slice (some ⟨g1, 0, none⟩) 1 cap1] w1 fun e w' => ∃ v', e = .returned v' ∧ Txt B w' v' (t ++ lineT [nx]) ∧ Step w1 v w' v') :=
        appendLine_any B w1 v t (HTX.out.to HB1.out) (by omega) hG hl (HTE.out.to HB1.out (by omega)) [nx] g1 0 cap1 hlg.2 (fun e => by have := (OwnM.lt HTX.out g1 e).2; omega) (fun j x hx => by
          have hj := (List.getElem?_eq_some_iff.1 hx).1
          rw [Nat.zero_add, HO1.out.cellAt j (by simpa using hj)]
          have := congrArg (Option.map intV) hx
          rw [← List.getElem?_map] at this
          exact this) (by intro x hx; simp only [List.mem_cons, List.not_mem_nil, or_false] at hx; omega) (by simp)
      skip
      go_wp2_with fail
      go_at_call 26
      refine AL.out.mono ?_
      rintro e w9 ⟨v9, rfl, hT9, hS9⟩
      go_wp2
      go_ret
      exact ⟨v9, rfl, hT9, (Step.same HB1.out).trans hS9⟩
    · show Calls _ _ _ _ fun e w' => ∃ v', e = .returned v' ∧ Txt B w' v' (t ++ lineT [nx, 1]) ∧ Step w v w' v'
      go_enter Tryd.func27, Tryd.ntmps27
      have HB0 : Hid (Below w.heap.size w w) := Below.refl _ _
      have HO0 : Hid (w.ownsRow w.heap.size 3 1 (.slice none 0 0) 0 []) := World.ownsRow_nil _ _ _ _
      have cn := (HB0.out.cell (p := ⟨rb, ro, none⟩) hrb).trans c0
      have hm11 : 0 + 1 ≤ maxLen := by simp only [maxLen]; omega
      have hm21 : (0 + 1) * 8 ≤ 140737488355328 := by omega
      have hm31 : w.heap.size ≤ (w.alloc (.cells #[.int .i64 nx] 3)).heap.size := by first | (simp; done) | (simp; omega)
      have tok : True := trivial
      go_upto_region 5 with (have _t := tok; at_builtin; (refine wpList_append_lies _ rfl (.tmp 16) (.tmp 21) 24 rfl w.heap.size 3 i3 _ 1 8 Tryd.underlying24 HI2.out HZ2.out HS2.out HBY2.out rfl (by decide) (.slice none 0 0) 0 _ rfl (HO0.out.alloc _) ⟨w.heap.size, 0, none⟩ 1 1 [.int .i64 nx] rfl rfl (World.news_of_block (heap_new _ _)) (by simp [Value.oneCell']) (by decide) hm11 hm21 hm31 _ rfl ?_; intro g1 cap1 w1 hown1 hgrow1 hat1 hlt1; clear tok))
      have HB1 : Hid (Below w.heap.size w w1) := grown_plain HB0.out HO0.out hgrow1
      have hs1 := HB1.out.size
      have HO1 : Hid (w1.ownsRow w.heap.size 3 1 (.slice (some ⟨g1, 0, none⟩) 1 cap1) 1 [.int .i64 nx]) := hown1
      clear hown1 hgrow1 hat1 hlt1 hm11 hm21 hm31
      clear cn
      have ci := (HB1.out.cell (p := ⟨rb, ro + 1, none⟩) hrb).trans c1
      have hm12 : 1 + 1 ≤ maxLen := by simp only [maxLen]; omega
      have hm22 : (1 + 1) * 8 ≤ 140737488355328 := by omega
      have hm32 : w.heap.size ≤ (w1.alloc (.cells #[.int .i64 1] 3)).heap.size := by first | (simp; done) | (simp; omega)
      have tok : True := trivial
      go_upto_region 7 with (have _t := tok; at_builtin; (refine wpList_append_lies _ rfl (.tmp 27) (.tmp 28) 24 rfl w.heap.size 3 i3 _ 1 8 Tryd.underlying24 HI2.out HZ2.out HS2.out HBY2.out rfl (by decide) (.slice (some ⟨g1, 0, none⟩) 1 cap1) 1 _ rfl (HO1.out.alloc _) ⟨w1.heap.size, 0, none⟩ 1 1 [.int .i64 1] rfl rfl (World.news_of_block (heap_new _ _)) (by simp [Value.oneCell']) (by decide) hm12 hm22 hm32 _ rfl ?_; intro g2 cap2 w2 hown2 hgrow2 hat2 hlt2; clear tok))
      have HB2 : Hid (Below w.heap.size w w2) := grown_plain HB1.out HO1.out hgrow2
      have hs2 := HB2.out.size
      have HO2 : Hid (w2.ownsRow w.heap.size 3 1 (.slice (some ⟨g2, 0, none⟩) 2 cap2) 2 [.int .i64 nx, .int .i64 1]) := hown2
      clear hown2 hgrow2 hat2 hlt2 hm12 hm22 hm32
      have hlg := HO2.out.lt g2 rfl
      have AL : Hid (Calls Tryd.prog 26 #[v, .slice (some ⟨g2, 0, none⟩) 2 cap2] w2 fun e w' => ∃ v', e = .returned v' ∧ Txt B w' v' (t ++ lineT [nx, (1 : Int)]) ∧ Step w2 v w' v') :=
        appendLine_any B w2 v t (HTX.out.to HB2.out) (by omega) hG hl (HTE.out.to HB2.out (by omega)) [nx, (1 : Int)] g2 0 cap2 hlg.2 (fun e => by have := (OwnM.lt HTX.out g2 e).2; omega) (fun j x hx => by
          have hj := (List.getElem?_eq_some_iff.1 hx).1
          rw [Nat.zero_add, HO2.out.cellAt j (by simpa using hj)]
          have := congrArg (Option.map intV) hx
          rw [← List.getElem?_map] at this
          exact this) (by intro x hx; simp only [List.mem_cons, List.not_mem_nil, or_false] at hx; omega) (by simp)
      clear ci
      go_wp2_with fail
      go_at_call 26
      refine AL.out.mono ?_
      rintro e w9 ⟨v9, rfl, hT9, hS9⟩
      go_wp2
      go_ret
      exact ⟨v9, rfl, hT9, (Step.same HB2.out).trans hS9⟩

set_option maxRecDepth 100000 in
set_option maxHeartbeats 8000000 in
theorem appendGate_text (B : Nat) (w : World) (v : Value) (t : List UInt8) (h : Txt B w v t) (hB : B ≤ w.heap.size) (hG : Tryd.prog.globals.size ≤ B) (hl : t.length ≤ 50000000) (ht : Tens w) (own x y : Int) (ho : 0 ≤ own ∧ own < 4294967296) (hx : 0 ≤ x ∧ x < 4294967296) (hy : 0 ≤ y ∧ y < 4294967296) :
    Calls Tryd.prog 29 #[v, .int .i64 0, .int .i64 own, .agg #[.int .i64 x, .int .i64 y]] w fun e w' => ∃ v', e = .returned v' ∧ Txt B w' v' (t ++ lineT [own, x, y]) ∧ Step w v w' v' := by
  have HTX := hidden h
  have HTE := hidden ht
  clear h ht
  go_enter Tryd.func29, Tryd.ntmps29
  go_wp2_with fail
  generalize hW : World.alloc (World.alloc w _) _ = W
  have HB : Hid (Below w.heap.size w W) := by rw [← hW]; exact ((Below.refl _ _).alloc (Nat.le_refl _) _).alloc (by simp) _
  have HC : Hid (∀ j, W.cell? ⟨w.heap.size + 1, j, none⟩ = (#[.int .i64 own, .int .i64 x, .int .i64 y] : Array Value)[j]?) := by
    rw [← hW]; intro j; exact cell_new (by simp)
  have hN : w.heap.size + 1 < W.heap.size := by rw [← hW]; simp
  have AL : Hid (Calls Tryd.prog 26 #[v, .slice (some ⟨w.heap.size + 1, 0, none⟩) 3 3] W fun e w' => ∃ v', e = .returned v' ∧ Txt B w' v' (t ++ lineT [own, x, y]) ∧ Step W v w' v') :=
    appendLine_any B W v t (HTX.out.to HB.out) (by have := HB.out.size; omega) hG hl (HTE.out.to HB.out (by omega)) [own, x, y] (w.heap.size + 1) 0 3 hN (fun e => by have := (OwnM.lt HTX.out _ e).2; omega) (fun j z hz => by
      rw [Nat.zero_add, HC.out j]
      have := congrArg (Option.map intV) hz
      rw [← List.getElem?_map] at this
      simpa [intV] using this) (by intro z hz; simp only [List.mem_cons, List.not_mem_nil, or_false] at hz; omega) (by simp)
  clear hW HC
  go_at_call 26
  refine AL.out.mono ?_
  rintro e w9 ⟨v9, rfl, hT9, hS9⟩
  go_wp2
  go_ret
  exact ⟨v9, rfl, hT9, (Step.same HB.out).trans hS9⟩

end Go.Proofs.YtmifbcpinhpnnaaDoor
