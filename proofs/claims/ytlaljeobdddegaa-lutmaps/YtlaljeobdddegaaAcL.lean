import Derived.Test.YtlaljeobdddegaaAcK
namespace Go.Proofs.Ytlaljeobdddegaa
open Go.RowKit

def numsK (first : Nat) (nk : List Bool) (n k : Nat) : List Nat := (List.range k).map (toV first nk) ++ List.replicate (n - k) 0
theorem numsK_len (first : Nat) (nk : List Bool) (n k : Nat) (h : k ≤ n) : (numsK first nk n k).length = n := by unfold numsK; simp; omega
theorem numsK_set (first : Nat) (nk : List Bool) (n k : Nat) (h : k < n) : (numsK first nk n k).set k (toV first nk k) = numsK first nk n (k + 1) := by
  unfold numsK
  rw [show n - k = (n - (k + 1)) + 1 by omega, List.replicate_succ, List.range_succ, List.map_append]
  have := set_mid ((List.range k).map (toV first nk)) 0 (toV first nk k) (List.replicate (n - (k + 1)) 0)
  rw [List.length_map, List.length_range] at this
  rw [this]; simp
theorem numsK_all (first : Nat) (nk : List Bool) (n : Nat) : numsK first nk n n = (List.range n).map (toV first nk) := by unfold numsK; simp
theorem made_int (n : Nat) : (madeCells (Value.int .i64 0).cells (n * 1)).toList = (List.replicate n 0).map iV := by
  rw [Nat.mul_one]
  apply List.ext_getElem?
  intro i
  by_cases h : i < n
  · simp [madeCells, Value.cells, iV, h, Nat.mod_one]
  · simp [madeCells, Value.cells, iV, h]
/-- how many are marked ahead -/
theorem rank_next {first : Nat} {nk : List Bool} {k : Nat} {b : Bool} (h : (List.replicate first true ++ nk)[k]? = some b) : toV first nk (k + 1) = toV first nk k + (if b then 1 else 0) := by
  rw [← rank_eq, ← rank_eq, take_snoc h, List.count_append]
  cases b <;> rfl

set_option maxRecDepth 100000 in
set_option maxHeartbeats 4000000 in
theorem renum_any (w : World) (nb tg tc n first : Nat) (nk : List Bool) (q : w.cell? ⟨nb, 0, none⟩ = some (.slice (some ⟨tg, 0, none⟩) n tc)) (hn : n ≤ 60000) (HT : ∀ v, v < n → w.cell? ⟨tg, v, none⟩ = some (.int .i64 (toV first nk v : Nat)) ∧ toV first nk v ≤ 60000) (l : Int) (h0 : 0 ≤ l) (h1 : l < 2 * (n : Int)) :
    Calls Try.prog 64 #[.int .i64 l, .pointer (some ⟨nb, 0, none⟩)] w fun e w' => e = .returned (.int .i64 (litC first nk l)) ∧ w' = w := by
  obtain ⟨v, hv⟩ : ∃ v, v = l.toNat / 2 := ⟨_, rfl⟩
  have hvn : v < n := by omega
  obtain ⟨ct, hle⟩ := HT v hvn
  have e0 : litC first nk l = 2 * (toV first nk v : Nat) + l % 2 := by rw [hv]; rfl
  rw [e0]
  have q1 : Int.tdiv l 2 = (v : Int) := by rw [Int.tdiv_eq_ediv_of_nonneg h0]; omega
  have q2 : Int.tmod l 2 = l % 2 := by rw [Int.tmod_eq_emod_of_nonneg h0]
  have hr : 0 ≤ l % 2 ∧ l % 2 < 2 := by omega
  generalize toV first nk v = tv at *
  generalize l % 2 = r at *
  have hvI : (v : Int) < (n : Int) := by omega
  have e1 : IntKind.i64.wrap (v : Int) = (v : Int) := wrapI _ (by omega) (by omega)
  have e2 : IntKind.i64.wrap r = r := wrapI _ (by omega) (by omega)
  have e4 : IntKind.i64.wrap (2 * (tv : Int)) = 2 * (tv : Int) := wrapI _ (by omega) (by omega)
  have e5 : IntKind.i64.wrap (2 * (tv : Int) + r) = 2 * (tv : Int) + r := wrapI _ (by omega) (by omega)
  clear hv HT e0
  go_enter Try.func64, Try.ntmps64
  go_wp2
  go_ret
  exact ⟨rfl, rfl⟩

set_option maxRecDepth 100000 in
set_option maxHeartbeats 8000000 in
theorem kpNums (wc : World) (first : Nat) (nk nd : List Bool) (C n g nb tg : Nat) (q3 : wc.cell? ⟨nb, 0, none⟩ = some (.slice (some ⟨tg, 0, none⟩) n n)) (hnb : nb < wc.heap.size) (hnt : nb ≠ tg) (hg : g < wc.heap.size) (hgt : g ≠ tg) (hn : n ≤ 60000) (hnd : nd.length = n) (HND : Hid (nd = List.replicate first true ++ nk)) (HN : Hid (∀ (i : Nat) (b : Bool), nd[i]? = some b → wc.cell? ⟨g, i, none⟩ = some (.bool b))) (HZ : Hid (0 = toV first nk 0)) (HTV : Hid (∀ k, toV first nk k ≤ 60000)) (HO : Hid (wc.ownsRow C 3 1 (.slice (some ⟨tg, 0, none⟩) n n) n ((List.replicate n 0).map iV))) (K' : Act → World → Prop) (Q0 : Exit → Act → World → Prop) (x0 x1 x2 x5 x6 x7 x8 x9 x10 x11 x12 x13 x14 x15 x16 x17 x18 x19 x20 x21 x22 x23 x27 x28 x29 x30 x31 x32 x33 x34 x35 x36 x37 x38 x39 x40 x41 x42 x43 x44 x45 x46 x47 x48 x49 x50 x51 x52 x53 x54 x55 x56 x57 x58 x59 x60 x61 x62 x63 x64 x65 x66 x67 x68 x69 x70 x71 x72 x73 x74 x75 x76 x77 x78 x79 x80 x81 x82 x83 x84 x85 x86 x87 x88 x89 x90 x91 x92 x93 x94 x95 x96 x97 x98 x99 x100 x101 x102 x103 x104 x105 x106 x107 x108 x109 x110 x111 x112 x113 x114 x115 x116 x117 x118 x119 x120 x121 x122 x123 x124 x125 x126 x127 x128 x129 x130 x131 x132 x133 x134 x135 x136 x137 x138 x139 x140 x141 x142 x143 x144 x145 x146 x147 x148 x149 x150 x151 x152 : Value)
    (HK : Hid (∀ (w' : World) (s4 s5 s6 s26 s27 s28 s29 s30 s31 s32 s33 s34 s35 s36 s37 s38 : Value), w'.ownsRow C 3 1 (.slice (some ⟨tg, 0, none⟩) n n) n (((List.range n).map (toV first nk)).map iV) ∧ wc.grownBy w' (some tg) → K' ⟨#[x0, x1, x2, .pointer (some ⟨nb, 0, none⟩), s4, s5, s6, x7, x8, x9, x10, x11, x12, x13, x14, x15, x16, x17, x18, x19, x20, x21, x22, x23, .slice (some ⟨g, 0, none⟩) n n, .int .i64 (n : Int), s26, s27, s28, s29, s30, s31, s32, s33, s34, s35, s36, s37, s38, x39, x40, x41, x42, x43, x44, x45, x46, x47, x48, x49, x50, x51, x52, x53, x54, x55, x56, x57, x58, x59, x60, x61, x62, x63, x64, x65, x66, x67, x68, x69, x70, x71, x72, x73, x74, x75, x76, x77, x78, x79, x80, x81, x82, x83, x84, x85, x86, x87, x88, x89, x90, x91, x92, x93, x94, x95, x96, x97, x98, x99, x100, x101, x102, x103, x104, x105, x106, x107, x108, x109, x110, x111, x112, x113, x114, x115, x116, x117, x118, x119, x120, x121, x122, x123, x124, x125, x126, x127, x128, x129, x130, x131, x132, x133, x134, x135, x136, x137, x138, x139, x140, x141, x142, x143, x144, x145, x146, x147, x148, x149, x150, x151, x152], []⟩ w')) :
    Code.wp Try.prog ((Try.f48.body.bind (blockAt 0)).getD .skip) (Exit.then K' Q0) ⟨#[x0, x1, x2, .pointer (some ⟨nb, 0, none⟩), .int .i64 0, x5, x6, x7, x8, x9, x10, x11, x12, x13, x14, x15, x16, x17, x18, x19, x20, x21, x22, x23, .slice (some ⟨g, 0, none⟩) n n, .int .i64 (n : Int), .int .i64 0, x27, x28, x29, x30, x31, x32, x33, x34, x35, x36, x37, x38, x39, x40, x41, x42, x43, x44, x45, x46, x47, x48, x49, x50, x51, x52, x53, x54, x55, x56, x57, x58, x59, x60, x61, x62, x63, x64, x65, x66, x67, x68, x69, x70, x71, x72, x73, x74, x75, x76, x77, x78, x79, x80, x81, x82, x83, x84, x85, x86, x87, x88, x89, x90, x91, x92, x93, x94, x95, x96, x97, x98, x99, x100, x101, x102, x103, x104, x105, x106, x107, x108, x109, x110, x111, x112, x113, x114, x115, x116, x117, x118, x119, x120, x121, x122, x123, x124, x125, x126, x127, x128, x129, x130, x131, x132, x133, x134, x135, x136, x137, x138, x139, x140, x141, x142, x143, x144, x145, x146, x147, x148, x149, x150, x151, x152], []⟩ wc := by
  conv => arg 2; whnf
  go_wp2_with fail
  go_loopw [4, 26] (fun t' i' w' => ∃ (k : Nat), k ≤ n ∧ i' = .int .i64 k ∧ t' = .int .i64 (toV first nk k : Nat) ∧ Hid (w'.ownsRow C 3 1 (.slice (some ⟨tg, 0, none⟩) n n) n ((numsK first nk n k).map iV)) ∧ Hid (wc.grownBy w' (some tg))) (fun _ i' _ => n - (intOf i').toNat)
  case atStart => exact ⟨0, Nat.zero_le _, rfl, by rw [← HZ.out]; rfl, by show World.ownsRow _ _ _ _ _ _ _; have := HO.out; unfold numsK; simpa using this, grown_refl _ _⟩
  case round =>
    obtain ⟨k, hk, rfl, rfl, HOr, HG⟩ := hrel
    have q3R := (HG.out.cell_far ⟨nb, 0, none⟩ hnb (by simp; omega)).trans q3
    by_cases hlt : k < n
    · obtain ⟨b, hb⟩ : ∃ b, nd[k]? = some b := getElem_lt (by omega)
      have cB : wr.cell? ⟨g, k, none⟩ = some (.bool b) := (HG.out.cell_far ⟨g, k, none⟩ hg (by simp; omega)).trans (HN.out k b hb)
      have HRN : Hid (toV first nk (k + 1) = toV first nk k + (if b then 1 else 0)) := rank_next (by rw [← HND.out]; exact hb)
      have HSE := hidden (numsK_set first nk n k hlt)
      have hle := HTV.out k
      generalize toV first nk k = tv at *
      have hltI : (k : Int) < (n : Int) := by omega
      have e3 : IntKind.i64.wrap ((k : Int) + 1) = (k : Int) + 1 := wrapI _ (by omega) (by omega)
      have e4 : IntKind.i64.wrap ((tv : Int) + 1) = (tv : Int) + 1 := wrapI _ (by omega) (by omega)
      have hcl := HOr.out.cellAt k (by omega)
      have hfz := HOr.out.frozenAt k
      have hold : ∃ old, wr.cell? ⟨tg, k, none⟩ = some old := by
        rw [hcl]
        have hL : k < ((numsK first nk n k).map iV).length := by rw [List.length_map, numsK_len _ _ _ _ hk]; exact hlt
        exact ⟨_, List.getElem?_eq_getElem hL⟩
      obtain ⟨old, hold⟩ := hold
      have HST := hidden (HOr.out.stored k (.int .i64 (tv : Int)))
      clear hcl hb
      go_upto_region 7 with fail
      generalize hW5 : World.setCell wr _ _ = w5
      rw [hW5] at HST
      have HO5 : Hid (w5.ownsRow C 3 1 (.slice (some ⟨tg, 0, none⟩) n n) n ((numsK first nk n (k + 1)).map iV)) := by
        have := HST.out.1
        rw [show Value.int .i64 (tv : Int) = iV tv from rfl, ← List.map_set, HSE.out] at this
        exact this
      have HG5 : Hid (wc.grownBy w5 (some tg)) := grown_trans HG.out HST.out.2
      clear hW5 HST hold hfz HOr HG HSE q3R cB
      cases b
      · go_wp2
        go_roundw
        case measure => simp [intOf]; omega
        case rel => exact ⟨k + 1, by omega, by simp, by rw [HRN.out]; simp, HO5.out, HG5.out⟩
      · go_wp2
        go_roundw
        case measure => simp [intOf]; omega
        case rel => exact ⟨k + 1, by omega, by simp, by rw [HRN.out]; simp, HO5.out, HG5.out⟩
    · have hge : ¬ ((k : Int) < (n : Int)) := by omega
      have HEN : Hid (wr.ownsRow C 3 1 (.slice (some ⟨tg, 0, none⟩) n n) n (((List.range n).map (toV first nk)).map iV)) := by
        have := HOr.out
        rw [show k = n by omega, numsK_all] at this
        exact this
      clear HOr
      go_wp2
      exact HK.out _ _ _ _ _ _ _ _ _ _ _ _ _ _ _ _ _ ⟨HEN.out, HG.out⟩

end Go.Proofs.Ytlaljeobdddegaa
