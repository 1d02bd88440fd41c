import Derived.Test.YtlaljeobdddegaaMrM
import Derived.Test.YtlaljeobdddegaaLrF
import Derived.Test.YtlaljeobdddegaaLrD
namespace Go.Proofs.Ytlaljeobdddegaa
open Go.RowKit Mp

theorem mkB_same : ∀ (n : Nat) {f g : Nat → Bool}, (∀ i, i < n → f i = g i) → mkB n f = mkB n g
  | 0, _, _, _ => rfl
  | n + 1, f, g, h => by
    show mkB n f + _ = mkB n g + _
    rw [mkB_same n (fun i hi => h i (by omega)), h n (by omega)]
theorem spl_snoc (l : List Bool) (b : Bool) : spl (l ++ [b]) = spl l + if b then 2 ^ l.length else 0 := by
  unfold spl
  rw [List.length_append, List.length_singleton]
  show mkB l.length _ + _ = _
  rw [mkB_same (g := fun i => l.getD i false) l.length (fun i hi => by rw [List.getD_eq_getElem?_getD, List.getElem?_append_left hi, ← List.getD_eq_getElem?_getD])]
  have : (l ++ [b]).getD l.length false = b := by rw [List.getD_eq_getElem?_getD, List.getElem?_concat_length]; rfl
  show _ + (if (l ++ [b]).getD l.length false = true then _ else _) = _
  rw [this]
theorem spell_spl (l : List Bool) : L.spell l = spl l := by
  have key : ∀ k, k ≤ l.length → L.spell (l.take k) = spl (l.take k) := by
    intro k
    induction k with
    | zero => intro _; rfl
    | succ k ih =>
      intro hk
      obtain ⟨b, hb⟩ := getElem_lt (show k < l.length by omega)
      rw [take_next _ _ _ hb, L.spell_snoc, spl_snoc, ih (by omega)]
  have := key l.length (Nat.le_refl _)
  rwa [List.take_length] at this
theorem bitAt_nat (B k : Nat) : L.bitAt (B : Int) k = B.testBit k := by
  unfold L.bitAt
  rw [Nat.testBit_eq_decide_div_mod_eq]
  have e : (B : Int) / 2 ^ k = ((B / 2 ^ k : Nat) : Int) := by
    rw [Int.natCast_ediv]; simp
  rw [e]
  congr 1
  apply propext
  omega
/-- a base row, and what the variables are worth -/
structure BaseV (F : Nat) (base : List Bool) (val : Nat → Bool) : Prop where
  len : base.length = F + 1
  b0 : base[0]? = some false
  b1 : base[1]? = some true
  src : ∀ v, 1 ≤ v → v < F → base[v + 1]? = some (val v)
def litW (val : Nat → Bool) (l : Nat) : Bool := val (l / 2) != decide (l % 2 = 1)
def dptL (F : Nat) (U : Nat → Nat) (l : Nat) : Int := if l / 2 < F then ((l % 2 : Nat) : Int) else (U (l / 2) : Int)
structure SigO (P : (Nat → Bool) → Prop) (F : Nat) (U : Nat → Nat) (tabs : List L.TbD) (l : Nat) (s : Int) : Prop where
  ge : 0 ≤ s
  lt : s < (F : Int) + 1 + (tabs.length : Int)
  val : ∀ base val, BaseV F base val → P val → L.sV (L.tabsN base tabs) s = litW val l
  dep : (L.dsN (F + 1) tabs).getD s.toNat 0 ≤ dptL F U l
theorem sV_more {base : List Bool} {tabs : List L.TbD} {F : Nat} (hb : base.length = F + 1) {s : Int} (h1 : s < (F : Int) + 1 + (tabs.length : Int)) (h0 : 0 ≤ s) (d : L.TbD) : L.sV (L.tabsN base (tabs ++ [d])) s = L.sV (L.tabsN base tabs) s := by
  unfold L.sV
  rw [L.tabs_snoc, List.getElem?_append_left (by rw [L.tabs_length, hb]; omega)]
theorem dsN_more {tabs : List L.TbD} {F : Nat} {s : Int} (h1 : s < (F : Int) + 1 + (tabs.length : Int)) (h0 : 0 ≤ s) (d : L.TbD) : (L.dsN (F + 1) (tabs ++ [d])).getD s.toNat 0 = (L.dsN (F + 1) tabs).getD s.toNat 0 := by
  rw [L.dsN_snoc, List.getD_eq_getElem?_getD, List.getElem?_append_left (by rw [L.dsN_len]; omega), ← List.getD_eq_getElem?_getD]
theorem SigO.more {P : (Nat → Bool) → Prop} {F : Nat} {U : Nat → Nat} {tabs : List L.TbD} {l : Nat} {s : Int} (h : SigO P F U tabs l s) (d : L.TbD) : SigO P F U (tabs ++ [d]) l s :=
  ⟨h.ge, by rw [List.length_append]; have := h.lt; simp; omega, fun base val hb hp => by rw [sV_more hb.len h.lt h.ge]; exact h.val base val hb hp, by rw [dsN_more h.lt h.ge]; exact h.dep⟩
/-- a net as it is laid down -/
structure LayI (P : (Nat → Bool) → Prop) (F n : Nat) (U : Nat → Nat) (wd : Nat → Bool) (N : NetL) (sg : Nat → Int) (Y : Nat → Prop) : Prop where
  ni : 2 + N.ni + (N.init.length : Int) = (F : Int) + 1
  s0 : sg 0 = 0
  s1 : sg 1 = 1
  src : ∀ v, 1 ≤ v → v < F → sg (2 * v) = 1 + (v : Int)
  sig : ∀ l, l < 2 * n → sg l ≠ -1 → SigO P F U N.tabs l (sg l)
  had : ∀ v, Y v → (sg (2 * v) ≠ -1 ∨ sg (2 * v + 1) ≠ -1) ∧ (wd (2 * v) = true → sg (2 * v) ≠ -1) ∧ (wd (2 * v + 1) = true → sg (2 * v + 1) ≠ -1)
  ok : ∀ (i : Nat) (d : L.TbD), N.tabs[i]? = some d → d.ok ((F : Int) + 1 + (i : Int)) = true
theorem LayI.mono {P : (Nat → Bool) → Prop} {F n : Nat} {U : Nat → Nat} {wd : Nat → Bool} {N : NetL} {sg : Nat → Int} {Y Y' : Nat → Prop} (h : LayI P F n U wd N sg Y) (hY : ∀ v, Y' v → Y v) : LayI P F n U wd N sg Y' := ⟨h.ni, h.s0, h.s1, h.src, h.sig, fun v hv => h.had v (hY v hv), h.ok⟩
/-- a table more -/
theorem LayI.add {P : (Nat → Bool) → Prop} {F n : Nat} {U : Nat → Nat} {wd : Nat → Bool} {N N' : NetL} {sg sg' : Nat → Int} {Y : Nat → Prop} (h : LayI P F n U wd N sg Y) {l : Nat} {ins : List Int} {B : Nat} (hT : TabP N N' sg sg' l ins B) (h1 : l ≠ 0 ∧ l ≠ 1) (h2 : l % 2 = 0 → F ≤ l / 2) (hl : ins.length ≤ 4) (hi : ∀ s, s ∈ ins → 0 ≤ s ∧ s < (F : Int) + 1 + (N.tabs.length : Int)) (hB : B < 2 ^ 2 ^ ins.length) (hv : ∀ base val, BaseV F base val → P val → B.testBit (spl (ins.map (L.sV (L.tabsN base N.tabs)))) = litW val l) (hd : L.maxD (L.dsN (F + 1) N.tabs) ins + 1 ≤ dptL F U l) : LayI P F n U wd N' sg' Y ∧ sg' l ≠ -1 ∧ ∀ k, sg k ≠ -1 → sg' k ≠ -1 := by
  obtain ⟨d, rfl, hb, rfl, rfl⟩ := hT
  have hs : 2 + N.ni + (N.init.length : Int) + (N.tabs.length : Int) = (F : Int) + 1 + (N.tabs.length : Int) := by have := h.ni; omega
  rw [hs]
  have up : ∀ k, sg k ≠ -1 → upd sg l ((F : Int) + 1 + (N.tabs.length : Int)) k ≠ -1 := fun k hk => by
    unfold upd; split
    · omega
    · exact hk
  have upl : upd sg l ((F : Int) + 1 + (N.tabs.length : Int)) l ≠ -1 := by rw [upd_same]; omega
  have hok : d.ok ((F : Int) + 1 + (N.tabs.length : Int)) = true := by
    unfold L.TbD.ok
    rw [Bool.and_eq_true, Bool.and_eq_true]
    refine ⟨⟨decide_eq_true hl, List.all_eq_true.2 fun s hs => decide_eq_true (hi s hs)⟩, decide_eq_true ⟨by rw [hb]; omega, ?_⟩⟩
    rw [hb]
    unfold L.pw
    have e : (2 : Int) ^ (2 ^ d.ins.length) = ((2 ^ 2 ^ d.ins.length : Nat) : Int) := by simp
    rw [e]
    exact Int.ofNat_lt.2 hB
  refine ⟨⟨h.ni, by rw [upd_ne (Ne.symm h1.1)]; exact h.s0, by rw [upd_ne (Ne.symm h1.2)]; exact h.s1, fun v a b => ?_, fun k hk hne => ?_, fun v hv => ?_, fun i e he => ?_⟩, upl, up⟩
  · rw [upd_ne (by intro e; have := h2 (by omega); omega)]
    exact h.src v a b
  · by_cases e : k = l
    · subst e
      rw [upd_same]
      refine ⟨by omega, by rw [List.length_append, List.length_singleton]; omega, fun base val hb' hp => ?_, ?_⟩
      · rw [← hv base val hb' hp]
        unfold L.sV
        rw [L.tabs_snoc, List.getElem?_append_right (by rw [L.tabs_length, hb'.len]; omega), L.tabs_length, hb'.len, show ((F : Int) + 1 + (N.tabs.length : Int)).toNat - (F + 1 + N.tabs.length) = 0 by omega]
        show L.tabV d _ = _
        unfold L.tabV
        rw [hb, bitAt_nat, spell_spl]
        rfl
      · rw [L.dsN_snoc, List.getD_eq_getElem?_getD, List.getElem?_append_right (by rw [L.dsN_len]; omega), L.dsN_len, show ((F : Int) + 1 + (N.tabs.length : Int)).toNat - (F + 1 + N.tabs.length) = 0 by omega]
        exact hd
    · rw [upd_ne e] at hne ⊢
      exact (h.sig k hk hne).more d
  · obtain ⟨a, b, c⟩ := h.had v hv
    refine ⟨?_, fun h' => up _ (b h'), fun h' => up _ (c h')⟩
    rcases a with a | a
    · exact Or.inl (up _ a)
    · exact Or.inr (up _ a)
  · by_cases hi2 : i < N.tabs.length
    · rw [List.getElem?_append_left hi2] at he
      exact h.ok i e he
    · have : i = N.tabs.length := by
        have := (List.getElem?_eq_some_iff.1 he).1
        rw [List.length_append, List.length_singleton] at this
        omega
      subst this
      rw [List.getElem?_concat_length] at he
      obtain rfl := Option.some.inj he
      exact hok
theorem maxD_most {ds : List Int} {M : Int} : ∀ (l : List Int) (m : Int), m ≤ M → (∀ s, s ∈ l → ds.getD s.toNat 0 ≤ M) → l.foldl (fun m s => L.mostI m (ds.getD s.toNat 0)) m ≤ M
  | [], m, hm, _ => hm
  | a :: r, m, hm, h => by
    rw [List.foldl_cons]
    refine maxD_most r _ ?_ (fun s hs => h s (List.mem_cons_of_mem _ hs))
    unfold L.mostI
    split
    · exact h a List.mem_cons_self
    · exact hm
/-- a source that is wanted inverted -/
theorem LayI.source {P : (Nat → Bool) → Prop} {F n : Nat} {U : Nat → Nat} {wd : Nat → Bool} {N N' : NetL} {sg sg' : Nat → Int} {v : Nat} (h : LayI P F n U wd N sg fun u => u < v) (h1 : 1 ≤ v) (h2 : v < F) (hFn : F ≤ n) (hT : (wd (2 * v + 1) = true ∧ TabP N N' sg sg' (2 * v + 1) [sg (2 * v)] 1) ∨ (wd (2 * v + 1) = false ∧ N' = N ∧ sg' = sg)) : LayI P F n U wd N' sg' fun u => u < v + 1 := by
  have hs := h.src v h1 h2
  have hso := h.sig (2 * v) (by omega) (by rw [hs]; omega)
  have close : ∀ {N2 : NetL} {sg2 : Nat → Int}, LayI P F n U wd N2 sg2 (fun u => u < v) → (wd (2 * v + 1) = true → sg2 (2 * v + 1) ≠ -1) → LayI P F n U wd N2 sg2 fun u => u < v + 1 := fun {N2 sg2} h' hw => by
    refine ⟨h'.ni, h'.s0, h'.s1, h'.src, h'.sig, fun u hu => ?_, h'.ok⟩
    by_cases e : u = v
    · subst e
      have := h'.src u h1 h2
      exact ⟨Or.inl (by omega), fun _ => by omega, hw⟩
    · exact h'.had u (by omega)
  rcases hT with ⟨hw, hT⟩ | ⟨hw, rfl, rfl⟩
  · obtain ⟨k1, k2, k3⟩ := h.add hT (by omega) (fun e => by omega) (by simp) (fun s hs' => by
      obtain rfl := List.mem_singleton.1 hs'
      exact ⟨hso.ge, hso.lt⟩) (by show 1 < 2 ^ 2 ^ 1; decide) (fun base val hb hp => by
        have := hso.val base val hb hp
        rw [List.map_singleton, this]
        unfold litW
        rw [show 2 * v / 2 = v by omega, show (2 * v + 1) / 2 = v by omega, show 2 * v % 2 = 0 by omega, show (2 * v + 1) % 2 = 1 by omega]
        cases val v <;> decide) (by
        have hz : L.maxD (L.dsN (F + 1) N.tabs) [sg (2 * v)] ≤ 0 := maxD_most _ _ (Int.le_refl _) (fun s hs' => by
          obtain rfl := List.mem_singleton.1 hs'
          have := hso.dep
          unfold dptL at this
          rw [if_pos (by omega)] at this
          omega)
        unfold dptL
        rw [if_pos (by omega)]
        omega)
    exact close k1 (fun _ => k2)
  · exact close h (fun e => by rw [hw] at e; cases e)
/-! a gate's tables -/
def flK (iv : Nat → Bool) (k : Nat) (l : List Bool) : List Bool := l.mapIdx fun i x => if i < k ∧ iv i = true then !x else x
theorem flK_get (iv : Nat → Bool) (k : Nat) (l : List Bool) (i : Nat) : (flK iv k l)[i]? = l[i]?.map fun x => if i < k ∧ iv i = true then !x else x := by
  unfold flK; rw [List.getElem?_mapIdx]
theorem flK_zero (iv : Nat → Bool) (l : List Bool) : flK iv 0 l = l := by
  apply List.ext_getElem?
  intro i
  rw [flK_get]
  cases l[i]? with
  | none => rfl
  | some x => simp
theorem flK_next_pos {iv : Nat → Bool} {k : Nat} {l : List Bool} (hk : k < l.length) (h : iv k = true) : flK iv k (l.set k (!l.getD k false)) = flK iv (k + 1) l := by
  apply List.ext_getElem?
  intro i
  rw [flK_get, flK_get, List.getElem?_set]
  by_cases e : k = i
  · subst e
    rw [if_pos rfl, if_pos hk, List.getD_eq_getElem?_getD, List.getElem?_eq_getElem hk]
    simp [h]
  · rw [if_neg e]
    cases l[i]? with
    | none => rfl
    | some x =>
      simp only [Option.map_some]
      by_cases h2 : i < k
      · simp [h2, show i < k + 1 by omega]
      · simp [h2, show ¬ i < k + 1 by omega]
theorem flK_next_neg {iv : Nat → Bool} {k : Nat} {l : List Bool} (h : iv k = false) : flK iv k l = flK iv (k + 1) l := by
  apply List.ext_getElem?
  intro i
  rw [flK_get, flK_get]
  cases l[i]? with
  | none => rfl
  | some x =>
    simp only [Option.map_some]
    by_cases e : i = k
    · subst e; simp [h]
    · by_cases h2 : i < k
      · simp [h2, show i < k + 1 by omega]
      · simp [h2, show ¬ i < k + 1 by omega]
def invS (sg : Nat → Int) (ls : List Nat) (i : Nat) : Bool := decide (sg (2 * ls.getD i 0) = -1)
theorem bitG_val (sg : Nat → Int) (ls : List Nat) (b : Nat) : ∀ (k : Nat), k ≤ ls.length → ∀ l : List Bool, l.length = ls.length → (bitG sg ls b k).testBit (spl l) = b.testBit (spl (flK (invS sg ls) k l))
  | 0, _, l, _ => by rw [flK_zero]; rfl
  | k + 1, hk, l, hl => by
    obtain ⟨u, hu⟩ := getElem_lt (show k < ls.length by omega)
    rw [bitG_next sg ls b k hu]
    have eu : ls.getD k 0 = u := by rw [List.getD_eq_getElem?_getD, hu]; rfl
    by_cases h : sg (2 * u) = -1
    · have hi : invS sg ls k = true := by unfold invS; rw [eu]; exact decide_eq_true h
      rw [if_pos h, ← hl, trnT_val (by omega), ← flK_next_pos (by omega) hi]
      exact bitG_val sg ls b k (by omega) _ (by rw [List.length_set]; exact hl)
    · have hi : invS sg ls k = false := by unfold invS; rw [eu]; exact decide_eq_false h
      rw [if_neg h, ← flK_next_neg hi]
      exact bitG_val sg ls b k (by omega) _ hl
theorem bitG_pw (sg : Nat → Int) (ls : List Nat) (b : Nat) (hb : b < 2 ^ 2 ^ ls.length) : ∀ k, bitG sg ls b k < 2 ^ 2 ^ ls.length
  | 0 => hb
  | k + 1 => by
    have ih := bitG_pw sg ls b hb k
    unfold bitG at ih ⊢
    rw [List.range_succ, List.foldl_append, List.foldl_cons, List.foldl_nil]
    split
    · exact mkB_lt _ _
    · exact ih
theorem allB_bit {B n k : Nat} (hk : k < 2 ^ n) : (B ^^^ allB n).testBit k = !B.testBit k := by
  rw [Nat.testBit_xor]
  unfold allB
  rw [Nat.testBit_two_pow_sub_one, decide_eq_true hk]
  cases B.testBit k <;> rfl
theorem LayI.gate {P : (Nat → Bool) → Prop} {F n : Nat} {U : Nat → Nat} {wd : Nat → Bool} {N N' : NetL} {sg sg' : Nat → Int} {Y : Nat → Prop} (h : LayI P F n U wd N sg Y) (hY : ∀ u, u < F → Y u) {g : Nat} (hg : F ≤ g) (hgn : g < n) (hF1 : 1 ≤ F) {ls : List Nat} {b : Nat} (hl : ls.length ≤ 4) (hb : b < 2 ^ 2 ^ ls.length) (hlu : ∀ u, u ∈ ls → u < g ∧ (F ≤ u → Y u ∧ 0 < U u ∧ U u < U g)) (hv : ∀ val, P val → b.testBit (spl (ls.map val)) = val g) (hU : 0 < U g) (hG : GateP N N' sg sg' wd g (ls.map (insG sg)) (bitG sg ls b ls.length) (bitG sg ls b ls.length ^^^ allB ls.length)) : LayI P F n U wd N' sg' fun u => Y u ∨ u = g := by
  -- the literal that stands for a leaf
  have lit : ∀ u, u ∈ ls → ∃ l, l < 2 * n ∧ insG sg u = sg l ∧ sg l ≠ -1 ∧ l / 2 = u ∧ (l % 2 = 1 ↔ sg (2 * u) = -1) ∧ dptL F U l ≤ (U g : Int) - 1 := fun u hu => by
    obtain ⟨h1, h2⟩ := hlu u hu
    have hYu : Y u := by
      by_cases e : u < F
      · exact hY u e
      · exact (h2 (by omega)).1
    obtain ⟨k1, _, _⟩ := h.had u hYu
    unfold insG
    by_cases e : sg (2 * u) = -1
    · rw [if_pos e]
      refine ⟨2 * u + 1, by omega, rfl, ?_, by omega, by omega, ?_⟩
      · rcases k1 with k | k
        · exact absurd e k
        · exact k
      · have hFu : F ≤ u := by
          by_cases e2 : F ≤ u
          · exact e2
          · by_cases e3 : u = 0
            · subst e3; have := h.s0; rw [Nat.mul_zero] at e; omega
            · have := h.src u (by omega) (by omega); omega
        have := h2 hFu
        unfold dptL
        rw [show (2 * u + 1) / 2 = u by omega, if_neg (by omega)]
        omega
    · rw [if_neg e]
      refine ⟨2 * u, by omega, rfl, e, by omega, by constructor; omega; exact fun h => absurd h e, ?_⟩
      unfold dptL
      rw [show 2 * u / 2 = u by omega]
      by_cases e2 : u < F
      · rw [if_pos e2]; omega
      · rw [if_neg e2]; have := h2 (by omega); omega
  have hi : ∀ s, s ∈ ls.map (insG sg) → 0 ≤ s ∧ s < (F : Int) + 1 + (N.tabs.length : Int) := fun s hs => by
    obtain ⟨u, hu, rfl⟩ := List.mem_map.1 hs
    obtain ⟨l, h1, h2, h3, _⟩ := lit u hu
    have := h.sig l h1 h3
    rw [h2]; exact ⟨this.ge, this.lt⟩
  have hd : L.maxD (L.dsN (F + 1) N.tabs) (ls.map (insG sg)) + 1 ≤ (U g : Int) := by
    have : L.maxD (L.dsN (F + 1) N.tabs) (ls.map (insG sg)) ≤ (U g : Int) - 1 := maxD_most _ _ (by omega) (fun s hs => by
      obtain ⟨u, hu, rfl⟩ := List.mem_map.1 hs
      obtain ⟨l, h1, h2, h3, _, _, h6⟩ := lit u hu
      have := (h.sig l h1 h3).dep
      rw [h2]; omega)
    omega
  have hval : ∀ base val, BaseV F base val → P val → (ls.map (insG sg)).map (L.sV (L.tabsN base N.tabs)) = ls.map fun u => val u != decide (sg (2 * u) = -1) := fun base val hbv hp => by
    rw [List.map_map]
    apply List.map_congr_left
    intro u hu
    obtain ⟨l, h1, h2, h3, h4, h5, _⟩ := lit u hu
    show L.sV _ (insG sg u) = _
    rw [h2, (h.sig l h1 h3).val base val hbv hp]
    unfold litW
    rw [h4]
    congr 1
    exact decide_eq_decide.2 h5
  have hbit : ∀ val, P val → (bitG sg ls b ls.length).testBit (spl (ls.map fun u => val u != decide (sg (2 * u) = -1))) = val g := fun val hp => by
    rw [bitG_val sg ls b ls.length (Nat.le_refl _) _ (by simp), ← hv val hp]
    congr 2
    apply List.ext_getElem?
    intro i
    rw [flK_get, List.getElem?_map, List.getElem?_map]
    cases e : ls[i]? with
    | none => rfl
    | some u =>
      have hil := (List.getElem?_eq_some_iff.1 e).1
      simp only [Option.map_some]
      congr 1
      unfold invS
      rw [List.getD_eq_getElem?_getD, e]
      simp only [Option.getD_some]
      by_cases e2 : sg (2 * u) = -1
      · simp [e2, hil]
      · simp [e2]
  have hlen : (ls.map (insG sg)).length = ls.length := List.length_map _
  have hpw := bitG_pw sg ls b hb ls.length
  have hg2 : (2 * g) / 2 = g := by omega
  have hg3 : (2 * g + 1) / 2 = g := by omega
  obtain ⟨N1, sg1, hA, hB⟩ := hG
  -- the first one
  have s1 : LayI P F n U wd N1 sg1 Y ∧ ((wd (2 * g) || !wd (2 * g + 1)) = true → sg1 (2 * g) ≠ -1) ∧ (∃ r, N1.tabs = N.tabs ++ r) := by
    rcases hA with ⟨hc, hT⟩ | ⟨hc, rfl, rfl⟩
    · obtain ⟨k1, k2, k3⟩ := h.add hT (by omega) (fun _ => by omega) (by rw [hlen]; exact hl) hi (by rw [hlen]; exact hpw) (fun base val hbv hp => by
        rw [hval base val hbv hp, hbit val hp]
        unfold litW
        rw [hg2, show 2 * g % 2 = 0 by omega]
        simp) (by unfold dptL; rw [hg2, if_neg (by omega)]; exact hd)
      obtain ⟨d, _, _, rfl, _⟩ := hT
      exact ⟨k1, fun _ => k2, [d], rfl⟩
    · exact ⟨h, (fun e => by rw [hc] at e; cases e), [], by simp⟩
  obtain ⟨L1, w1, r, hr⟩ := s1
  have more : ∀ base, base.length = F + 1 → ∀ s, s ∈ ls.map (insG sg) → L.sV (L.tabsN base (N.tabs ++ r)) s = L.sV (L.tabsN base N.tabs) s := fun base hbl s hs => by
    obtain ⟨q1, q2⟩ := hi s hs
    rcases hA with ⟨_, d, _, _, e, _⟩ | ⟨_, e, _⟩
    · have e2 : N1.tabs = N.tabs ++ [d] := by rw [e]
      rw [← hr, e2, sV_more hbl q2 q1]
    · rw [← hr, e]
  have moreD : ∀ s, s ∈ ls.map (insG sg) → (L.dsN (F + 1) (N.tabs ++ r)).getD s.toNat 0 = (L.dsN (F + 1) N.tabs).getD s.toNat 0 := fun s hs => by
    obtain ⟨q1, q2⟩ := hi s hs
    rcases hA with ⟨_, d, _, _, e, _⟩ | ⟨_, e, _⟩
    · have e2 : N1.tabs = N.tabs ++ [d] := by rw [e]
      rw [← hr, e2, dsN_more q2 q1]
    · rw [← hr, e]
  have s2 : LayI P F n U wd N' sg' Y ∧ (wd (2 * g + 1) = true → sg' (2 * g + 1) ≠ -1) ∧ ∀ k, sg1 k ≠ -1 → sg' k ≠ -1 := by
    rcases hB with ⟨hc, hT⟩ | ⟨hc, rfl, rfl⟩
    · obtain ⟨k1, k2, k3⟩ := L1.add hT (by omega) (fun _ => by omega) (by rw [hlen]; exact hl) (fun s hs => by have := hi s hs; rw [hr, List.length_append]; omega) (by
          rw [hlen]
          refine Nat.xor_lt_two_pow hpw ?_
          unfold allB
          have := Nat.two_pow_pos (2 ^ ls.length)
          omega) (fun base val hbv hp => by
        rw [hr, List.map_congr_left (fun s hs => more base hbv.len s hs), hval base val hbv hp, allB_bit (by have := spl_lt (ls.map fun u => val u != decide (sg (2 * u) = -1)); rw [List.length_map] at this; exact this), hbit val hp]
        unfold litW
        rw [hg3, show (2 * g + 1) % 2 = 1 by omega]
        simp) (by
        unfold dptL; rw [hg3, if_neg (by omega), hr]
        have : L.maxD (L.dsN (F + 1) (N.tabs ++ r)) (ls.map (insG sg)) ≤ (U g : Int) - 1 := maxD_most _ _ (by omega) (fun s hs => by
          rw [moreD s hs]
          obtain ⟨u, hu, rfl⟩ := List.mem_map.1 hs
          obtain ⟨l, h1, h2, h3, _, _, h6⟩ := lit u hu
          have := (h.sig l h1 h3).dep
          rw [h2]; omega)
        omega)
      exact ⟨k1, fun _ => k2, k3⟩
    · exact ⟨L1, (fun e => by rw [hc] at e; cases e), fun k hk => hk⟩
  obtain ⟨L2, w2, up⟩ := s2
  refine ⟨L2.ni, L2.s0, L2.s1, L2.src, L2.sig, fun u hu => ?_, L2.ok⟩
  rcases hu with hu | rfl
  · exact L2.had u hu
  · refine ⟨?_, fun e => up _ (w1 (by rw [e]; rfl)), w2⟩
    by_cases e : wd (2 * u + 1) = true
    · exact Or.inr (w2 e)
    · refine Or.inl (up _ (w1 ?_))
      have : wd (2 * u + 1) = false := by simpa using e
      rw [this]; simp
end Go.Proofs.Ytlaljeobdddegaa
