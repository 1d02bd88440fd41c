import Derived.Deep.DeepAppendWide
import Derived.Deep.AppendLies
import Derived.Test.YtlkhmcajedjojaaJ26
namespace Go.Proofs.Ytlkhmcajedjojaa
open Go.RowKit

section
variable {P : Program} (w : World)

/-- where the new slice of an append lies, whatever the bound -/
theorem append_place (base : Nat) (t ty e : TypeId) (i : TypeInfo) (z : Value) (ht : P.underlying t = some (.slice e)) (hi : P.info? e = some i) (hz : i.zero = some z)
    (v : Value) (n : Nat) (xs : List Value) (hown : w.ownsRow base e i.size v n xs)
    (ad : Addr) (m c : Nat) (news : List Value) (hl : news.length = m * i.size) (hnews : ∀ j u, news[j]? = some u → w.cell? (ad.add j) = some u) (h1 : ∀ u ∈ news, u.oneCell' = true)
    (hm : 0 < m) (h63 : n + m ≤ maxLen) (hbytes : ((n + m) + (n + m) / 4 + 192) * i.bytes ≤ 281474976710656) {v' : Value} {w' : World}
    (h : (Builtin.append_ #[t, t] ty #[v, .slice (some ad) m c]).run P w = .ok v' w') : v'.ownBlock = v.ownBlock ∨ v'.ownBlock = some w.heap.size := by
  have hsmall : n + m ≤ 9223372036854775807 := by simp only [maxLen] at h63; omega
  rcases hown.2 with ⟨rfl, rfl⟩ | ⟨g, cap, cur, rfl, hbg, hg, hnc, hcm, hcs, htake⟩
  · have hr := run_append_nil (P := P) w t ty e i z ht hi hz ad m c news hl hnews hm (by omega) (by have hb := hbytes; simp only [Nat.zero_add] at hb; exact Nat.le_trans (Nat.mul_le_mul_right _ (by omega)) hb)
    rw [hr] at h
    injection h with h2 h3
    exact .inr (by rw [← h2]; rfl)
  · by_cases hroom : n + m ≤ cap
    · have hfit : n * i.size + news.length ≤ cur.size := by rw [hl, hcs, ← Nat.add_mul]; exact Nat.mul_le_mul_right _ hroom
      have hr := run_append_room (P := P) w t ty e i ht hi g n cap cur hg ad m c news hl hnews h1 hroom hfit
      rw [hr] at h
      injection h with h2 h3
      exact .inl (by rw [← h2]; rfl)
    · have holds : ∀ j u, xs[j]? = some u → w.cell? ((⟨g, 0, none⟩ : Addr).add j) = some u := hown.cells (g := g) rfl
      have hr := run_append_grow (P := P) w t ty e i z ht hi hz ⟨g, 0, none⟩ n cap xs hown.1 holds ad m c news hl hnews (by omega) (by omega) (growslice_fits_wide (by omega) hbytes)
      rw [hr] at h
      injection h with h2 h3
      exact .inr (by rw [← h2]; rfl)

theorem wpList_append_lw {ops : Array Oper} {rest : List Oper} {o : Oper} {a : Act} {Q : Exit → Act → World → Prop} (hgd : o.guard = none) (s x : Operand) (t : TypeId)
    (ho : o.op = .call { callee := .builtin .append, args := #[s, x], argTypes := #[t, t] })
    (base : Nat) (e : TypeId) (i : TypeInfo) (z : Value) (size bytes : Nat) (ht : P.underlying t = some (.slice e)) (hi : P.info? e = some i) (hz : i.zero = some z)
    (hsize : i.size = size) (hby : i.bytes = bytes) (hzs : z.cells.size = size) (hsz : 0 < size)
    (v : Value) (n : Nat) (xs : List Value) (hs : a.eval s = v) (hown : w.ownsRow base e size v n xs)
    (ad : Addr) (m c : Nat) (news : List Value) (hx : a.eval x = .slice (some ad) m c) (hl : news.length = m * size) (hnews : ∀ j u, news[j]? = some u → w.cell? (ad.add j) = some u) (h1 : ∀ u ∈ news, u.oneCell' = true)
    (hm : 0 < m) (h63 : n + m ≤ maxLen) (hbytes : ((n + m) + (n + m) / 4 + 192) * bytes ≤ 281474976710656) (hbase : base ≤ w.heap.size) (Hs : Nat) (hH : w.heap.size = Hs)
    (h : ∀ g cap w', w'.ownsRow base e size (.slice (some ⟨g, 0, none⟩) (n + m) cap) (n + m) (xs ++ news) → w.grownBy w' v.ownBlock → (v.ownBlock = some g ∨ g = Hs) → g < w'.heap.size → wpList P ops Q rest (a.put o.dst (.slice (some ⟨g, 0, none⟩) (n + m) cap)) w') : wpList P ops Q (o :: rest) a w := by
  subst hsize
  subst hby
  refine wpList_plain hgd fun K hK => ?_
  obtain ⟨v', w', hr, h2, h3, -⟩ := run_append_own_wide (P := P) w base t o.type e i z i.size i.bytes ht hi hz rfl rfl hzs hsz v n xs hown ad m c news hl hnews h1 h63 hbytes hbase
  have h4 := append_place w base t o.type e i z ht hi hz v n xs hown ad m c news hl hnews h1 hm h63 hbytes hr
  obtain ⟨g, cap, rfl, -, hlt⟩ := h2.form (by omega)
  have h5 : v.ownBlock = some g ∨ g = Hs := by
    rcases h4 with h4 | h4
    · exact .inl (by rw [← h4]; rfl)
    · right
      have : g = w.heap.size := by simpa [Value.ownBlock] using h4
      rw [this, hH]
  unfold Oper.wp execOp
  simp only [ho, resolve, invoke, builtin, Sem.run_bind, Sem.run_pure, Result.andThen_ok, List.map_toArray, List.map_cons, List.map_nil, hs, hx, hr]
  exact hK _ _ (h g cap w' h2 h3 h5 hlt)
end

end Go.Proofs.Ytlkhmcajedjojaa

namespace Go.Proofs.Ytlkhmcajedjojaa
open Go.RowKit

theorem made_zero (n : Nat) : (madeCells (Value.int .u64 0).cells (n * 1)).toList = (List.replicate n 0).map uV := by
  rw [Nat.mul_one]
  apply List.ext_getElem?
  intro i
  by_cases h : i < n
  · simp [madeCells, Value.cells, uV, h, Nat.mod_one]
  · simp [madeCells, Value.cells, uV, h]
theorem none_below {w w' : World} (h : w.grownBy w' none) : Below w.heap.size w w' := ⟨h.os, h.tape, h.output, h.size, fun k hk => h.block k hk (by simp)⟩
theorem info_sl0 : (Try.prog.info? 34).map (fun i => (i.zero, i.size, i.bytes)) = some (some (.slice none 0 0), 1, 24) := by kernel_rfl
theorem info_sl : ∃ i, Try.prog.info? 34 = some i ∧ i.zero = some (.slice none 0 0) ∧ i.size = 1 ∧ i.bytes = 24 := by
  have h := info_sl0
  cases hi : Try.prog.info? 34 with
  | none => rw [hi] at h; cases h
  | some i => rw [hi] at h; simp at h; exact ⟨i, rfl, h.1, h.2.1, h.2.2⟩

set_option maxRecDepth 100000 in
set_option maxHeartbeats 8000000 in
theorem nrMems (wc : World) (N : NetD) (nbk : Nat) (a3 : Option Addr) (c3 : Nat) (q3 : wc.cell? ⟨nbk, 3, none⟩ = some (.slice a3 N.mems.length c3)) (hnbk : nbk < wc.heap.size) (HR : Hid (RowAt wc.heap.size wc a3 2 (N.mems.map MemD.cells))) (hin : ∀ z, z ∈ N.mems → 1 ≤ z.words ∧ z.words ≤ 256) (hlen : N.mems.length ≤ 8796093022208) (K' : Act → World → Prop) (Q0 : Exit → Act → World → Prop) (x0 x1 x3 x4 x5 x7 x9 x10 x11 x12 x13 x14 x15 x16 x17 x18 x19 x20 x21 x22 x23 x24 x25 x26 x27 x28 x29 x30 x31 x32 x33 x34 x35 x36 x37 x38 x39 x40 x41 x42 x43 x44 x45 x46 x47 x48 x49 x50 x51 x52 x53 x54 x55 x56 x57 x58 x59 x60 x61 x62 x63 x64 x65 x66 x67 x68 x69 x70 x71 x72 x73 x74 x75 x76 x77 x78 x79 x80 x81 x82 x83 x84 x85 x86 x87 x88 x89 x90 x91 x92 x93 x94 x95 x96 x97 x98 x99 x100 x101 x102 x103 x104 x105 x106 x107 x108 x109 x110 x111 x112 x113 x114 x115 x116 x117 x118 x119 x120 x121 x122 x123 x124 x125 x126 x127 x128 x129 x130 x131 x132 x133 x134 x135 x136 x137 x138 x139 x140 x141 x142 x143 x144 x145 x146 x147 x148 x149 x150 x151 x152 x153 x154 x155 : Value)
    (HK : Hid (∀ (w' : World) (s6 s8 s33 s34 s35 s36 s37 s38 s39 s40 s41 s42 s43 s44 s45 s46 s47 s48 s49 : Value), (∃ ms : List MB, ms.map MB.l = N.mems.map (fun m => List.replicate m.words.toNat 0) ∧ MsIn wc.heap.size w' ms ∧ w'.ownsRow wc.heap.size 34 1 s6 N.mems.length (ms.map MB.val) ∧ (∀ m, m ∈ ms → s6.ownBlock ≠ some m.b) ∧ Below wc.heap.size wc w') → K' ⟨#[x0, x1, .pointer (some ⟨nbk, 0, none⟩), x3, x4, x5, s6, x7, s8, x9, x10, x11, x12, x13, x14, x15, x16, x17, x18, x19, x20, x21, x22, x23, x24, x25, x26, x27, x28, x29, x30, x31, x32, s33, s34, s35, s36, s37, s38, s39, s40, s41, s42, s43, s44, s45, s46, s47, s48, s49, x50, x51, x52, x53, x54, x55, x56, x57, x58, x59, x60, x61, x62, x63, x64, x65, x66, x67, x68, x69, x70, x71, x72, x73, x74, x75, x76, x77, x78, x79, x80, x81, x82, x83, x84, x85, x86, x87, x88, x89, x90, x91, x92, x93, x94, x95, x96, x97, x98, x99, x100, x101, x102, x103, x104, x105, x106, x107, x108, x109, x110, x111, x112, x113, x114, x115, x116, x117, x118, x119, x120, x121, x122, x123, x124, x125, x126, x127, x128, x129, x130, x131, x132, x133, x134, x135, x136, x137, x138, x139, x140, x141, x142, x143, x144, x145, x146, x147, x148, x149, x150, x151, x152, x153, x154, x155], []⟩ w')) :
    Code.wp Try.prog ((Try.f24.body.bind (blockAt 2)).getD .skip) (Exit.then K' Q0) ⟨#[x0, x1, .pointer (some ⟨nbk, 0, none⟩), x3, x4, x5, .slice none 0 0, x7, .int .i64 0, x9, x10, x11, x12, x13, x14, x15, x16, x17, x18, x19, x20, x21, x22, x23, x24, x25, x26, x27, x28, x29, x30, x31, x32, x33, x34, x35, x36, x37, x38, x39, x40, x41, x42, x43, x44, x45, x46, x47, x48, x49, x50, x51, x52, x53, x54, x55, x56, x57, x58, x59, x60, x61, x62, x63, x64, x65, x66, x67, x68, x69, x70, x71, x72, x73, x74, x75, x76, x77, x78, x79, x80, x81, x82, x83, x84, x85, x86, x87, x88, x89, x90, x91, x92, x93, x94, x95, x96, x97, x98, x99, x100, x101, x102, x103, x104, x105, x106, x107, x108, x109, x110, x111, x112, x113, x114, x115, x116, x117, x118, x119, x120, x121, x122, x123, x124, x125, x126, x127, x128, x129, x130, x131, x132, x133, x134, x135, x136, x137, x138, x139, x140, x141, x142, x143, x144, x145, x146, x147, x148, x149, x150, x151, x152, x153, x154, x155], []⟩ wc := by
  conv => arg 2; whnf
  obtain ⟨i33, hi33, hz33, hs33, hb33⟩ := info_u64
  have HI2 := hidden hi33
  have HZ2 := hidden hz33
  have HS2 := hidden hs33
  have HBY2 := hidden hb33
  clear hi33 hz33 hs33 hb33
  obtain ⟨i34, hi34, hz34, hs34, hb34⟩ := info_sl
  have HI3 := hidden hi34
  have HZ3 := hidden hz34
  have HS3 := hidden hs34
  have HBY3 := hidden hb34
  clear hi34 hz34 hs34 hb34
  go_wp2_with fail
  go_loopw [6, 8] (fun v i' w' => ∃ (k : Nat) (msk : List MB), k ≤ N.mems.length ∧ i' = .int .i64 k ∧ Hid (msk.map MB.l = (N.mems.take k).map fun m => List.replicate m.words.toNat 0) ∧ Hid (MsIn wc.heap.size w' msk) ∧ Hid (w'.ownsRow wc.heap.size 34 1 v k (msk.map MB.val)) ∧ Hid (∀ m, m ∈ msk → v.ownBlock ≠ some m.b) ∧ Hid (Below wc.heap.size wc w')) (fun _ i' _ => N.mems.length - (intOf i').toNat)
  case atStart => exact ⟨0, [], Nat.zero_le _, rfl, rfl, ⟨fun m hm => by simp at hm, fun i j m m' hm => by simp at hm⟩, World.ownsRow_nil _ _ _ _, fun m hm => by simp at hm, Below.refl _ _⟩
  case round =>
    obtain ⟨k, msk, hk, rfl, HL, HM, HO, HSP, HBr⟩ := hrel
    have q3R := (HBr.out.cell (p := ⟨nbk, 3, none⟩) hnbk).trans q3
    by_cases hlt : k < N.mems.length
    · obtain ⟨z, hz⟩ : ∃ z, N.mems[k]? = some z := ⟨N.mems[k], List.getElem?_eq_getElem hlt⟩
      obtain ⟨rb, ro, ea, hrb, hrc⟩ := HR.out.el hz
      have c1 := (HBr.out.cell (p := ⟨rb, ro + k * 2 + 1, none⟩) hrb).trans (hrc 1 _ rfl)
      have hzw := hin z (List.mem_of_getElem? hz)
      have e1 : z.words = ((z.words.toNat : Nat) : Int) := by omega
      rw [ea] at q3R
      rw [e1] at c1
      have HNX : Hid ((N.mems.take (k + 1)).map (fun m => List.replicate m.words.toNat 0) = msk.map MB.l ++ [List.replicate z.words.toNat 0]) := by
        show _ = _
        rw [take_next _ k z hz, List.map_append, HL.out]; rfl
      have hn : z.words.toNat ≤ 256 := by omega
      generalize z.words.toNat = n at *
      have hltI : (k : Int) < (N.mems.length : Int) := by omega
      have e3 : IntKind.i64.wrap ((k : Int) + 1) = (k : Int) + 1 := wrapI _ (by omega) (by omega)
      have hmk : i33.bytes * n ≤ 281474976710656 := by rw [HBY2.out]; omega
      have hmx : n ≤ maxLen := by simp only [maxLen]; omega
      have hsz := HBr.out.size
      clear hrc ea hz e1 hzw
      have tok : True := trivial
      have hm1 : k + 1 ≤ maxLen := by simp only [maxLen]; omega
      have hm2 : ((k + 1) + (k + 1) / 4 + 192) * 24 ≤ 281474976710656 := by omega
      go_wp2_with (first | (have _t := tok; at_make; (refine wpList_make_full _ rfl (.tmp 46) (.tmp 46) 34 rfl wc.heap.size 33 i33 _ 1 Try.underlying34 HI2.out HZ2.out HS2.out .i64 .i64 (n : Int) (n : Int) n rfl rfl rfl rfl hmk hmx hsz ?_; intro w1 hown1 hgrow1; have HB1 := hidden (none_below hgrow1); have HOM := hidden hown1; have hs1 := HB1.out.size; have hm3 : wc.heap.size ≤ (w1.alloc (.cells #[.slice (some ⟨wr.heap.size, 0, none⟩) n n] 34)).heap.size := (by simp; omega); have HO1 := hidden (own_below HO.out HB1.out); clear tok hown1 hgrow1)) | (at_builtin; (refine wpList_append_lw _ rfl (.tmp 40) (.tmp 48) 31 rfl wc.heap.size 34 i34 _ 1 24 Try.underlying31 HI3.out HZ3.out HS3.out HBY3.out rfl (by decide) u6 k _ rfl (HO1.out.alloc _) ⟨w1.heap.size, 0, none⟩ 1 1 [.slice (some ⟨wr.heap.size, 0, none⟩) n n] rfl rfl (World.news_of_block (heap_new _ _)) (by simp [Value.oneCell']) (by decide) hm1 hm2 hm3 _ rfl ?_; intro g cap w5 hown hgrow hat5 hlt5)))
      have HMN : Hid (∃ msn : List MB, msn.map MB.l = (N.mems.take (k + 1)).map (fun m => List.replicate m.words.toNat 0) ∧ MsIn wc.heap.size w5 msn ∧ w5.ownsRow wc.heap.size 34 1 (.slice (some ⟨g, 0, none⟩) (k + 1) cap) (k + 1) (msn.map MB.val) ∧ (∀ m, m ∈ msn → Value.ownBlock (.slice (some ⟨g, 0, none⟩) (k + 1) cap) ≠ some m.b) ∧ Below wc.heap.size wc w5) := by
        have hmb : ∀ m, m ∈ msk → m.b < wr.heap.size := fun m hm => ((HM.out.own m hm).lt m.b rfl).2
        have hu6 : ∀ b, u6.ownBlock = some b → b < wr.heap.size := fun b hb => (HO.out.lt b hb).2
        have hw1 : wr.heap.size < w1.heap.size := (HOM.out.lt wr.heap.size rfl).2
        refine ⟨msk ++ [⟨wr.heap.size, List.replicate n 0⟩], ?_, ⟨?_, ?_⟩, ?_, ?_, ?_⟩
        · rw [List.map_append, HNX.out]; rfl
        · intro m hm
          rcases List.mem_append.1 hm with hm | hm
          · refine (((own_below (HM.out.own m hm) HB1.out).alloc _)).kept hgrow (.inr ?_)
            exact fun e => HSP.out m hm e.symm
          · simp only [List.mem_singleton] at hm
            subst hm
            have h1 := (HOM.out.alloc (.cells #[.slice (some ⟨wr.heap.size, 0, none⟩) n n] 34)).kept hgrow (.inr (fun e => by have := hu6 wr.heap.size e.symm; omega))
            rw [made_zero] at h1
            show World.ownsRow _ _ _ _ (Value.slice (some ⟨wr.heap.size, 0, none⟩) (List.replicate n 0).length (List.replicate n 0).length) (List.replicate n 0).length ((List.replicate n 0).map uV)
            rw [List.length_replicate]
            exact h1
        · have hb : ∀ (i : Nat) (m : MB), (msk ++ [⟨wr.heap.size, List.replicate n 0⟩])[i]? = some m → (i < msk.length ∧ msk[i]? = some m) ∨ (i = msk.length ∧ m.b = wr.heap.size) := by
            intro i m hm
            rcases Nat.lt_or_ge i msk.length with hi | hi
            · rw [List.getElem?_append_left hi] at hm; exact .inl ⟨hi, hm⟩
            · rw [List.getElem?_append_right hi] at hm
              have h0 := (List.getElem?_eq_some_iff.1 hm).1
              simp at h0
              have hi' : i = msk.length := by omega
              subst hi'
              simp at hm
              exact .inr ⟨rfl, by rw [← hm]⟩
          intro i j m m' hm hm' he
          rcases hb i m hm with ⟨hi, h1⟩ | ⟨hi, h1⟩ <;> rcases hb j m' hm' with ⟨hj, h2⟩ | ⟨hj, h2⟩
          · exact HM.out.apart i j m m' h1 h2 he
          · have := hmb m (List.mem_of_getElem? h1); omega
          · have := hmb m' (List.mem_of_getElem? h2); omega
          · omega
        · rw [List.map_append]
          have : [(⟨wr.heap.size, List.replicate n 0⟩ : MB)].map MB.val = [.slice (some ⟨wr.heap.size, 0, none⟩) n n] := by simp [MB.val]
          rw [this]; exact hown
        · intro m hm
          show some g ≠ some m.b
          intro e
          have e' : g = m.b := Option.some.inj e
          have hbm : m.b ≤ wr.heap.size ∧ (m.b < wr.heap.size → m ∈ msk) := by
            rcases List.mem_append.1 hm with hm | hm
            · have := hmb m hm; exact ⟨by omega, fun _ => hm⟩
            · simp only [List.mem_singleton] at hm; subst hm; exact ⟨Nat.le_refl _, fun h => absurd h (Nat.lt_irrefl _)⟩
          rcases hat5 with h5 | h5
          · have h6 := hu6 g h5
            exact HSP.out m (hbm.2 (by omega)) (by rw [h5, e'])
          · simp at h5; omega
        · refine Below.grown ((HBr.out.trans (HB1.out.mono HBr.out.size)).alloc (Nat.le_trans HBr.out.size HB1.out.size) _) hgrow (by simp; omega) (fun b hb => (HO.out.lt b hb).1)
      clear hown hgrow hat5 hlt5 hm1 hm2 hm3 HO HO1 HOM HB1 HBr HM HSP HNX HL hs1
      obtain ⟨msn, N1, N2, N3, N4, N5⟩ := HMN.out
      go_roundw
      case measure => simp [intOf]; omega
      case rel => exact ⟨k + 1, msn, by omega, by simp, N1, N2, N3, N4, N5⟩
    · have hge : ¬ ((k : Int) < (N.mems.length : Int)) := by omega
      have HEN : Hid (msk.map MB.l = N.mems.map (fun m => List.replicate m.words.toNat 0) ∧ wr.ownsRow wc.heap.size 34 1 u6 N.mems.length (msk.map MB.val)) := by
        have h1 := HL.out
        rw [List.take_of_length_le (by omega)] at h1
        refine ⟨h1, ?_⟩
        have := HO.out
        rw [show k = N.mems.length by omega] at this
        exact this
      clear HL HO
      go_wp2
      exact HK.out _ _ _ _ _ _ _ _ _ _ _ _ _ _ _ _ _ _ _ _ ⟨msk, HEN.out.1, HM.out, HEN.out.2, HSP.out, HBr.out⟩

end Go.Proofs.Ytlkhmcajedjojaa

namespace Go.Proofs.Ytlkhmcajedjojaa
open Go.RowKit

set_option maxRecDepth 100000 in
set_option maxHeartbeats 8000000 in
theorem told_any (w : World) (N : NetD) (mk nbk : Nat) (hmk : mk < w.heap.size) (hnbk : nbk < w.heap.size) (m0 : w.cell? ⟨mk, 0, none⟩ = some (.pointer (some ⟨nbk, 0, none⟩))) (av : Option Addr) (cv : Nat) (vs : List Nat) (m1 : w.cell? ⟨mk, 1, none⟩ = some (.slice av vs.length cv)) (hv : RowAt w.heap.size w av 1 (vs.map uN)) (a5 : Option Addr) (c5 : Nat) (q5 : w.cell? ⟨nbk, 5, none⟩ = some (.slice a5 N.outs.length c5)) (HOU : Hid (RowAt w.heap.size w a5 1 (N.outs.map intC))) (hin : ∀ a, a ∈ N.outs → 0 ≤ a ∧ a < (vs.length : Int)) (hlen : N.outs.length < 17592186044416) :
    Calls Try.prog 34 #[.pointer (some ⟨mk, 0, none⟩)] w fun e w' => e = .returned (.slice (some ⟨w.heap.size, 0, none⟩) N.outs.length N.outs.length) ∧ w'.ownsRow w.heap.size 33 1 (.slice (some ⟨w.heap.size, 0, none⟩) N.outs.length N.outs.length) N.outs.length ((N.outs.map (vAt vs)).map uV) ∧ Below w.heap.size w w' := by
  obtain ⟨i33, hi33, hz33, hs33, hb33⟩ := info_u64
  have HI2 := hidden hi33
  have HZ2 := hidden hz33
  have HS2 := hidden hs33
  have HBY2 := hidden hb33
  have HVR := hidden hv
  clear hi33 hz33 hs33 hb33 hv
  have hmkb : i33.bytes * N.outs.length ≤ 281474976710656 := by rw [HBY2.out]; omega
  have hmx : N.outs.length ≤ maxLen := by simp only [maxLen]; omega
  have tok : True := trivial
  go_enter Try.func34, Try.ntmps34
  go_wp2_with (have _t := tok; at_make; (refine wpList_make_full _ rfl (.tmp 13) (.tmp 13) 34 rfl w.heap.size 33 i33 _ 1 Try.underlying34 HI2.out HZ2.out HS2.out .i64 .i64 (N.outs.length : Int) (N.outs.length : Int) N.outs.length rfl rfl rfl rfl hmkb hmx (Nat.le_refl _) ?_; intro w1 hown1 hgrow1; have HB1 := hidden (none_below hgrow1); have HOM := hidden hown1; have m0' := (HB1.out.cell (p := ⟨mk, 0, none⟩) hmk).trans m0; have q5' := (HB1.out.cell (p := ⟨nbk, 5, none⟩) hnbk).trans q5; clear tok hown1 hgrow1))
  have HO0 : Hid (w1.ownsRow w.heap.size 33 1 (.slice (some ⟨w.heap.size, 0, none⟩) N.outs.length N.outs.length) N.outs.length ((List.replicate N.outs.length 0).map uV)) := by
    have := HOM.out
    rw [made_zero] at this
    exact this
  clear HOM
  go_loopw [23] (fun i' w' => ∃ (k : Nat), k ≤ N.outs.length ∧ i' = .int .i64 k ∧ Hid (w'.ownsRow w.heap.size 33 1 (.slice (some ⟨w.heap.size, 0, none⟩) N.outs.length N.outs.length) N.outs.length ((((N.outs.take k).map (vAt vs)) ++ (List.replicate N.outs.length 0).drop k).map uV)) ∧ Hid (w1.grownBy w' (some w.heap.size))) (fun i' _ => N.outs.length - (intOf i').toNat)
  case atStart => exact ⟨0, Nat.zero_le _, rfl, by show World.ownsRow _ _ _ _ _ _ _; simpa using HO0.out, grown_refl _ _⟩
  case round =>
    obtain ⟨k, hk, rfl, HO, HG⟩ := hrel
    have HBW : Hid (Below w.heap.size w wr) := HB1.out.trans (below_grown HG.out HB1.out.size (fun k hk => by cases hk; exact Nat.le_refl _))
    have m1R := (HBW.out.cell (p := ⟨mk, 1, none⟩) hmk).trans m1
    by_cases hlt : k < N.outs.length
    · obtain ⟨ob, oo, ea, hob, hoc⟩ := HOU.out.int hlt
      have co := (HBW.out.cell (p := ⟨ob, oo + k, none⟩) hob).trans (hoc k hlt)
      have hr := hin _ (List.mem_of_getElem? (at0_of hlt))
      obtain ⟨y, hy⟩ : ∃ y, vs[(at0 N.outs k).toNat]? = some y := ⟨vs[(at0 N.outs k).toNat]'(by omega), List.getElem?_eq_getElem (by omega)⟩
      obtain ⟨vb, vo, ev, hvb, cy⟩ := rowU HVR.out hy
      have cyR := (HBW.out.cell (p := ⟨vb, vo + (at0 N.outs k).toNat, none⟩) hvb).trans cy
      have ee : vAt vs (at0 N.outs k) = y := by unfold vAt; rw [hy]; rfl
      rw [ev] at m1R
      subst ea
      have hcl := HO.out.cellAt k (by omega)
      have hfz := HO.out.frozenAt k
      have hold : ∃ old, wr.cell? ⟨w.heap.size, k, none⟩ = some old := by
        rw [hcl]
        have hL : k < ((((N.outs.take k).map (vAt vs)) ++ (List.replicate N.outs.length 0).drop k).map uV).length := by simp; omega
        exact ⟨_, List.getElem?_eq_getElem hL⟩
      obtain ⟨old, hold⟩ := hold
      have HST := hidden (HO.out.stored k (.int .u64 (y : Int)))
      have HNX : Hid (((((N.outs.take k).map (vAt vs)) ++ (List.replicate N.outs.length 0).drop k).map uV).set k (.int .u64 (y : Int)) = ((((N.outs.take (k + 1)).map (vAt vs)) ++ (List.replicate N.outs.length 0).drop (k + 1)).map uV)) := by
        show _ = _
        have e : ((N.outs.take k ++ [at0 N.outs k]).map (vAt vs)) = ((N.outs.take k).map (vAt vs)) ++ [y] := by rw [List.map_append]; simp [ee]
        rw [take_next _ k _ (at0_of hlt), e]
        exact set_next _ _ k y (by simp; omega) (by simpa using hlt)
      generalize at0 N.outs k = a at *
      obtain ⟨ha0, ha1⟩ := hr
      have hltI : (k : Int) < (N.outs.length : Int) := by omega
      have e3 : IntKind.i64.wrap ((k : Int) + 1) = (k : Int) + 1 := wrapI _ (by omega) (by omega)
      clear hoc hy ee hcl HO cy ev
      go_wp2
      go_roundw
      case measure => simp [intOf]; omega
      case rel => exact ⟨k + 1, by omega, by simp, by show World.ownsRow _ _ _ _ _ _ _; rw [← HNX.out]; exact HST.out.1, grown_trans HG.out HST.out.2⟩
    · have hge : ¬ ((k : Int) < (N.outs.length : Int)) := by omega
      have HO6 : Hid (wr.ownsRow w.heap.size 33 1 (.slice (some ⟨w.heap.size, 0, none⟩) N.outs.length N.outs.length) N.outs.length ((N.outs.map (vAt vs)).map uV)) := by
        have := HO.out
        rw [List.take_of_length_le (by omega), List.drop_eq_nil_of_le (by simp; omega), List.append_nil] at this
        exact this
      clear HO
      go_wp2
      go_ret
      exact ⟨rfl, by have h := HO6.out; rw [List.map_map] at h; exact h, HBW.out⟩

end Go.Proofs.Ytlkhmcajedjojaa
