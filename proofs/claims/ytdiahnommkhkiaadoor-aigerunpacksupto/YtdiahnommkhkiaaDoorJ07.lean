import Derived.Test.YtdiahnommkhkiaaDoorJ05
import Derived.Lib.Split
import Derived.Test.YtdiahnommkhkiaaDoorJ06
namespace Go.Proofs.YtdiahnommkhkiaaDoor

theorem snocInd {motive : List UInt8 → Prop} (nil : motive []) (snoc : ∀ l x, motive l → motive (l ++ [x])) (l : List UInt8) : motive l := by
  have h : ∀ r : List UInt8, motive r.reverse := by
    intro r
    induction r with
    | nil => exact nil
    | cons x r ih => rw [List.reverse_cons]; exact snoc _ x ih
  have := h l.reverse
  rwa [List.reverse_reverse] at this
/-- what lies between the signs c, and behind the last one -/
def sp (c : UInt8) (l : List UInt8) : List (List UInt8) × List UInt8 := l.foldl (fun s x => if x = c then (s.1 ++ [s.2], []) else (s.1, s.2 ++ [x])) ([], [])
theorem sp_snoc (c : UInt8) (l : List UInt8) (x : UInt8) : sp c (l ++ [x]) = if x = c then ((sp c l).1 ++ [(sp c l).2], []) else ((sp c l).1, (sp c l).2 ++ [x]) := by
  unfold sp; rw [List.foldl_append]; rfl
theorem sp_from (c : UInt8) (l : List UInt8) (ps : List (List UInt8)) (r : List UInt8) : l.foldl (fun s x => if x = c then (s.1 ++ [s.2], []) else (s.1, s.2 ++ [x])) (ps, r) = (ps ++ (match sp c l with | ([], _) => [] | (a :: t, _) => (r ++ a) :: t), match sp c l with | ([], y) => r ++ y | (_ :: _, y) => y) := by
  induction l using snocInd with
  | nil => simp [sp]
  | snoc l x ih =>
    rw [List.foldl_append, ih, sp_snoc]
    simp only [List.foldl_cons, List.foldl_nil]
    cases hs : sp c l with
    | mk a y =>
      cases a with
      | nil => by_cases hx : x = c <;> simp [hx]
      | cons a t => by_cases hx : x = c <;> simp [hx]
/-- none of them -/
theorem sp_free (c : UInt8) (l : List UInt8) (h : c ∉ l) : sp c l = ([], l) := by
  induction l using snocInd with
  | nil => rfl
  | snoc l x ih =>
    rw [sp_snoc, ih (fun hc => h (by simp [hc]))]
    have : ¬ x = c := fun e => h (by simp [e])
    simp [this]
theorem sp_cut (c : UInt8) (a b : List UInt8) (h : c ∉ a) : sp c (a ++ c :: b) = (a :: (sp c b).1, (sp c b).2) := by
  have e : sp c (a ++ c :: b) = b.foldl (fun s x => if x = c then (s.1 ++ [s.2], []) else (s.1, s.2 ++ [x])) ([a], []) := by
    have : sp c (a ++ [c]) = ([a], []) := by rw [sp_snoc, sp_free c a h]; simp
    unfold sp at *
    rw [show a ++ c :: b = (a ++ [c]) ++ b by simp, List.foldl_append, this]
  rw [e, sp_from]
  cases hs : sp c b with
  | mk p y => cases p <;> simp
/-- all pieces -/
def pcs (c : UInt8) (l : List UInt8) : List (List UInt8) := (sp c l).1 ++ [(sp c l).2]
theorem pcs_free (c : UInt8) (l : List UInt8) (h : c ∉ l) : pcs c l = [l] := by unfold pcs; rw [sp_free c l h]; rfl
theorem pcs_cut (c : UInt8) (a b : List UInt8) (h : c ∉ a) : pcs c (a ++ c :: b) = a :: pcs c b := by unfold pcs; rw [sp_cut c a b h]; rfl
theorem first_or (c : UInt8) (l : List UInt8) : c ∉ l ∨ ∃ a b, c ∉ a ∧ l = a ++ c :: b := by
  by_cases h : c ∈ l
  · right
    obtain ⟨a, b, rfl, ha⟩ := List.append_of_mem h |> fun ⟨s, t, e⟩ => List.eq_append_cons_of_mem h
    exact ⟨a, b, ha, rfl⟩
  · exact .inl h
theorem index_free (c : UInt8) (l : List UInt8) (h : c ∉ l) : Lib.index l [c] = -1 := by
  induction l with
  | nil => rfl
  | cons x r ih =>
    have hx : ¬ x = c := fun e => h (by simp [e])
    have hr := ih (fun hc => h (by simp [hc]))
    unfold Lib.index
    have hp : List.isPrefixOf [c] (x :: r) = false := by simp [List.isPrefixOf]; exact fun e => hx e.symm
    rw [hp, hr]; rfl
theorem index_cut (c : UInt8) (a b : List UInt8) (h : c ∉ a) : Lib.index (a ++ c :: b) [c] = (a.length : Int) := by
  induction a with
  | nil => simp [Lib.index, List.isPrefixOf]
  | cons x r ih =>
    have hx : ¬ x = c := fun e => h (by simp [e])
    have hr := ih (fun hc => h (by simp [hc]))
    rw [List.cons_append]
    unfold Lib.index
    have hp : List.isPrefixOf [c] (x :: (r ++ c :: b)) = false := by simp [List.isPrefixOf]; exact fun e => hx e.symm
    rw [hp, hr]
    have : ¬ ((r.length : Int) == -1) = true := by simp
    simp [this]
theorem cut_free (c : UInt8) (l : List UInt8) (h : c ∉ l) : Lib.cut l [c] = (l, [], false) := by
  unfold Lib.cut; rw [index_free c l h]; simp
theorem cut_cut (c : UInt8) (a b : List UInt8) (h : c ∉ a) : Lib.cut (a ++ c :: b) [c] = (a, b, true) := by
  unfold Lib.cut; rw [index_cut c a b h]
  have : (0 : Int) ≤ (a.length : Int) := by omega
  simp [this]
/-- strings.SplitN: all pieces, or one too many -/
theorem splitK_pcs (c : UInt8) (k : Nat) (l : List UInt8) : ((pcs c l).length ≤ k + 1 → Lib.splitK [c] 0 k l = pcs c l) ∧ (k + 1 < (pcs c l).length → (Lib.splitK [c] 0 k l).length = k + 1) := by
  induction k generalizing l with
  | zero =>
    rcases first_or c l with h | ⟨a, b, ha, rfl⟩
    · rw [pcs_free c l h]; simp [Lib.splitK]
    · rw [pcs_cut c a b ha]
      have : 1 ≤ (pcs c b).length := by unfold pcs; simp
      simp only [List.length_cons, Lib.splitK]
      constructor
      · intro h; omega
      · intro _; simp
  | succ k ih =>
    rcases first_or c l with h | ⟨a, b, ha, rfl⟩
    · rw [pcs_free c l h]
      constructor
      · intro _; unfold Lib.splitK; rw [index_free c l h]; rfl
      · intro h; simp at h
    · have hi := ih b
      rw [pcs_cut c a b ha]
      have e : Lib.splitK [c] 0 (k + 1) (a ++ c :: b) = a :: Lib.splitK [c] 0 k b := by
        rw [show Lib.splitK [c] 0 (k + 1) (a ++ c :: b) = (if Lib.index (a ++ c :: b) [c] == -1 then [a ++ c :: b] else (a ++ c :: b).take ((Lib.index (a ++ c :: b) [c]).toNat + 0) :: Lib.splitK [c] 0 k ((a ++ c :: b).drop ((Lib.index (a ++ c :: b) [c]).toNat + [c].length))) from rfl, index_cut c a b ha]
        have : ¬ ((a.length : Int) == -1) = true := by simp
        simp [this]
      rw [e]
      simp only [List.length_cons]
      constructor
      · intro h; rw [hi.1 (by omega)]
      · intro h; rw [hi.2 (by omega)]
theorem sp_prefix (c : UInt8) (a b : List UInt8) : ∃ t, (sp c (a ++ b)).1 = (sp c a).1 ++ t := by
  have e : sp c (a ++ b) = b.foldl (fun s x => if x = c then (s.1 ++ [s.2], []) else (s.1, s.2 ++ [x])) ((sp c a).1, (sp c a).2) := by
    unfold sp; rw [List.foldl_append]
  rw [e, sp_from]
  exact ⟨_, rfl⟩
theorem pcs_len (c : UInt8) (l : List UInt8) : (pcs c l).length ≤ l.length + 1 := by
  unfold pcs
  have : ∀ l : List UInt8, (sp c l).1.length ≤ l.length := by
    intro l
    induction l using snocInd with
    | nil => simp [sp]
    | snoc l x ih =>
      rw [sp_snoc]
      split <;> simp <;> omega
  have := this l
  simp; omega


end Go.Proofs.YtdiahnommkhkiaaDoor

namespace Go.Proofs.YtdiahnommkhkiaaDoor
open Go.RowKit

theorem info_int0 : (Tryd.prog.info? 3).map (fun i => (i.zero, i.size, i.bytes)) = some (some (.int .i64 0), 1, 8) := by kernel_rfl
theorem info_int : ∃ i, Tryd.prog.info? 3 = some i ∧ i.zero = some (.int .i64 0) ∧ i.size = 1 ∧ i.bytes = 8 := by
  have h := info_int0
  cases hi : Tryd.prog.info? 3 with
  | none => rw [hi] at h; cases h
  | some i => rw [hi] at h; simp at h; exact ⟨i, rfl, h.1, h.2.1, h.2.2⟩
theorem info_str0 : (Tryd.prog.info? 9).map (fun i => (i.zero, i.size, i.bytes)) = some (some (.string ByteArray.empty), 1, 16) := by kernel_rfl
theorem info_str : ∃ i, Tryd.prog.info? 9 = some i ∧ i.zero = some (.string ByteArray.empty) ∧ i.size = 1 ∧ i.bytes = 16 := by
  have h := info_str0
  cases hi : Tryd.prog.info? 9 with
  | none => rw [hi] at h; cases h
  | some i => rw [hi] at h; simp at h; exact ⟨i, rfl, h.1, h.2.1, h.2.2⟩
theorem bs_piece (l : List UInt8) (k : Nat) (c : UInt8) (h : l[k]? = some c) : (bs l).extract k (k + 1) = bs [c] := by
  have hk : k < l.length := (List.getElem?_eq_some_iff.1 h).1
  have e : l[k] = c := by rw [List.getElem?_eq_getElem hk] at h; exact Option.some.inj h
  apply ByteArray.ext
  rw [ByteArray.data_extract]
  apply Array.toList_inj.1
  simp only [bs, Array.toList_extract, List.extract_eq_take_drop]
  rw [show k + 1 - k = 1 by omega, List.drop_eq_getElem_cons hk, e]
  simp
def nV (p : List UInt8) : Value := .int .i64 (numV p)
/-- the pieces of a line, ahead of a place in it, and the one begun -/
def PW (c : UInt8) (l : List UInt8) (k : Nat) : List (List UInt8) × List UInt8 := if k ≤ l.length then sp c (l.take k) else (pcs c l, [])
theorem PW_ne {c d : UInt8} {l : List UInt8} {k : Nat} (h : l[k]? = some d) (hd : ¬ d = c) : PW c l (k + 1) = ((PW c l k).1, (PW c l k).2 ++ [d]) := by
  have hk : k < l.length := (List.getElem?_eq_some_iff.1 h).1
  unfold PW
  rw [if_pos (by omega), if_pos (by omega), take_next l k d h, sp_snoc, if_neg hd]
theorem PW_eq {c : UInt8} {l : List UInt8} {k : Nat} (h : l[k]? = some c) : PW c l (k + 1) = ((PW c l k).1 ++ [(PW c l k).2], []) := by
  have hk : k < l.length := (List.getElem?_eq_some_iff.1 h).1
  unfold PW
  rw [if_pos (by omega), if_pos (by omega), take_next l k c h, sp_snoc, if_pos rfl]
theorem PW_end (c : UInt8) (l : List UInt8) : PW c l (l.length + 1) = ((PW c l l.length).1 ++ [(PW c l l.length).2], []) := by
  unfold PW
  rw [if_neg (by omega), if_pos (by omega), List.take_length]; rfl
theorem PW_mem (c : UInt8) (l : List UInt8) (k : Nat) : ∀ p, p ∈ (PW c l k).1 → p ∈ pcs c l := by
  intro p hp
  unfold PW at hp
  split at hp
  · obtain ⟨t, ht⟩ := sp_prefix c (l.take k) (l.drop k)
    rw [List.take_append_drop] at ht
    unfold pcs
    rw [ht]; simp [hp]
  · exact hp
set_option maxRecDepth 100000 in
set_option maxHeartbeats 4000000 in
theorem parted_any (l : List UInt8) (hl : l.length ≤ 1048576) (w : World) :
    Calls Tryd.prog 36 #[.string (bs l)] w fun e w' => ∃ v, e = .returned (.tuple #[v, .bool ((pcs 32 l).all numOk)]) ∧ ((pcs 32 l).all numOk = true → w'.ownsRow w.heap.size 3 1 v (pcs 32 l).length ((pcs 32 l).map nV)) ∧ Below w.heap.size w w' := by
  have hz := bs_size l
  have HG : Hid (∀ k c, l[k]? = some c → ∀ hk, (bs l)[k]'hk = c) := fun k c h hk => bs_get l k c h hk
  have HE : Hid (∀ k c, l[k]? = some c → (bs l).extract k (k + 1) = bs [c]) := fun k c h => bs_piece l k c h
  have HPL := hidden (pcs_len 32 l)
  generalize hbl : bs l = s at *
  clear hbl
  obtain ⟨r, HR⟩ : ∃ r, Hid ((pcs 32 l).all numOk = r) := ⟨_, rfl⟩
  rw [HR.out]
  obtain ⟨ib, hib, hzb, hsb, hbb⟩ := info_int
  have HI := hidden hib
  have HZ := hidden hzb
  have HS := hidden hsb
  have HBY := hidden hbb
  clear hib hzb hsb hbb
  go_enter Tryd.func36, Tryd.ntmps36
  go_wp2_with fail
  go_loopw [4, 5, 6] (fun o' s' i' w' => ∃ (k : Nat) (ps : List (List UInt8)) (wd : List UInt8), k ≤ l.length + 1 ∧ wd.length ≤ k ∧ ps.length ≤ k ∧ i' = .int .i64 k ∧ s' = .string (bs wd) ∧ Hid (PW 32 l k = (ps, wd)) ∧ Hid (ps.all numOk = true) ∧ Hid (w'.ownsRow w.heap.size 3 1 o' ps.length (ps.map nV)) ∧ Hid (Below w.heap.size w w')) (fun _ _ i' _ => l.length + 1 - (intOf i').toNat)
  case atStart => exact ⟨0, [], [], Nat.zero_le _, Nat.zero_le _, Nat.zero_le _, rfl, rfl, by simp [Hid, PW, sp], rfl, World.ownsRow_nil _ _ _ _, Below.refl _ _⟩
  case round =>
    obtain ⟨k, ps, wd, hk, hwd, hps, rfl, rfl, HPW, HAL, HO, HBr⟩ := hrel
    by_cases hle : k ≤ l.length
    · have hleI : (k : Int) ≤ (s.size : Int) := by omega
      have e5 : IntKind.i64.wrap ((k : Int) + 1) = (k : Int) + 1 := wrapI _ (by omega) (by omega)
      have hzw := bs_size wd
      by_cases hnb : ∃ d, l[k]? = some d ∧ ¬ d = 32
      · obtain ⟨d, hd, hd32⟩ := hnb
        have hlt : k < l.length := (List.getElem?_eq_some_iff.1 hd).1
        have hks : k < s.size := by omega
        have g1 := HG.out k d hd hks
        have x1 := HE.out k d hd
        have hltI : (k : Int) < (s.size : Int) := by omega
        have hb1 : ((d.toNat : Int) != 32) = true := by
          simp; intro e; exact hd32 (UInt8.toNat_inj.1 (by rw [show d.toNat = 32 by omega]; rfl))
        have HP2 : Hid (PW 32 l (k + 1) = (ps, wd ++ [d])) := by show _ = _; rw [PW_ne hd hd32, HPW.out]
        have hz1 := bs_size [d]
        have hap := bs_append wd [d]
        simp only [List.length_cons, List.length_nil] at hz1
        clear hd HPW
        go_wp2
        go_roundw
        case measure => simp [intOf]; omega
        case rel => exact ⟨k + 1, ps, wd ++ [d], by omega, by simp; omega, by omega, by simp, by first | rfl | (rw [← hap]), HP2.out, HAL.out, HO.out, HBr.out⟩
      · have FG := hidden (figures_any wd (by omega))
        have HP2 : Hid (PW 32 l (k + 1) = (ps ++ [wd], [])) := by
          show _ = _
          by_cases hlt : k < l.length
          · obtain ⟨d, hd⟩ := getElem_lt hlt
            have : d = 32 := by
              by_cases h : d = 32
              · exact h
              · exact absurd ⟨d, hd, h⟩ hnb
            subst this
            rw [PW_eq hd, HPW.out]
          · have : k = l.length := by omega
            subst this
            rw [PW_end, HPW.out]
        have HMW : Hid (wd ∈ pcs 32 l) := PW_mem 32 l (k + 1) wd (by rw [HP2.out]; simp)
        obtain ⟨b, HB0⟩ : ∃ b, Hid (numOk wd = b) := ⟨_, rfl⟩
        obtain ⟨x, HX0⟩ : ∃ x, Hid ((if numOk wd then numV wd else 0) = x) := ⟨_, rfl⟩
        rw [HX0.out, HB0.out] at FG
        have hm1 : ps.length + 1 ≤ maxLen := by simp only [maxLen]; omega
        have hm2 : (ps.length + 1) * 8 ≤ 140737488355328 := by omega
        have hsz := HBr.out.size
        have hcond : (∃ (hlt : (k : Int) < (s.size : Int)) (hks : k < s.size) (d : UInt8), s[k]'hks = d ∧ ((d.toNat : Int) != 32) = false) ∨ ¬ (k : Int) < (s.size : Int) := by
          by_cases hlt : k < l.length
          · left
            obtain ⟨d, hd⟩ := getElem_lt hlt
            refine ⟨by omega, by omega, d, HG.out k d hd (by omega), ?_⟩
            have : d = 32 := by
              by_cases h : d = 32
              · exact h
              · exact absurd ⟨d, hd, h⟩ hnb
            subst this; rfl
          · right; omega
        clear hnb HPW
        have hm3 : ∀ y : Value, w.heap.size ≤ (wr.alloc (.cells #[y] 3)).heap.size := fun y => by simp; omega
        rcases hcond with ⟨hltI, hks, d, g1, hb1⟩ | hltI
        all_goals
          go_wp2_with fail
          go_at_call 45
          refine (FG.out _).mono ?_
          rintro e w1 ⟨rfl, rfl⟩
          cases b
          · have hrf : r = false := by
              rw [← HR.out, Bool.eq_false_iff]; intro h
              have := List.all_eq_true.1 h wd HMW.out
              rw [HB0.out] at this; cases this
            subst hrf
            clear FG HO HAL
            go_wp2
            go_ret2
            exact ⟨_, rfl, fun h => (by cases h), HBr.out⟩
          · have HXV : Hid (x = numV wd) := by show _ = _; rw [← HX0.out, HB0.out]; rfl
            have hm4 := hm3 (.int .i64 x)
            have tok : True := trivial
            go_wp2_with (have _t := tok; at_builtin; (refine wpList_append_lies _ rfl (.tmp 39) (.tmp 41) 26 rfl w.heap.size 3 ib _ 1 8 Tryd.underlying26 HI.out HZ.out HS.out HBY.out rfl (by decide) u4 ps.length _ rfl (HO.out.alloc _) ⟨_, 0, none⟩ 1 1 [.int .i64 x] rfl rfl (World.news_of_block (heap_new _ _)) (by simp [Value.oneCell']) (by decide) hm1 hm2 hm4 _ rfl ?_; intro g cap w5 hown hgrow hat5 hlt5; clear tok))
            have HO5 : Hid (w5.ownsRow w.heap.size 3 1 (.slice (some ⟨g, 0, none⟩) (ps.length + 1) cap) (ps ++ [wd]).length ((ps ++ [wd]).map nV)) := by
              show World.ownsRow _ _ _ _ _ _ _
              rw [List.map_append, List.length_append]
              rw [HXV.out] at hown
              exact hown
            have HB5 : Hid (Below w.heap.size w w5) := grown_plain HBr.out HO.out hgrow
            have HA5 : Hid ((ps ++ [wd]).all numOk = true) := by show _ = _; rw [List.all_append, HAL.out]; simp [HB0.out]
            clear hown hgrow hat5 hlt5 hm1 hm2 hm4 HO HAL HBr FG
            go_wp2
            go_roundw
            case measure => simp [intOf]; omega
            case rel => exact ⟨k + 1, ps ++ [wd], [], by omega, Nat.zero_le _, by simp; omega, by simp, rfl, HP2.out, HA5.out, HO5.out, HB5.out⟩
    · have hge : ¬ ((k : Int) ≤ (s.size : Int)) := by omega
      have hkk : k = l.length + 1 := by omega
      have HPP : Hid (ps = pcs 32 l) := by
        have := HPW.out
        unfold PW at this
        rw [if_neg (by omega)] at this
        exact (congrArg Prod.fst this).symm
      have hrt : r = true := by rw [← HR.out, ← HPP.out]; exact HAL.out
      subst hrt
      have HOO : Hid (wr.ownsRow w.heap.size 3 1 u4 (pcs 32 l).length ((pcs 32 l).map nV)) := by rw [← HPP.out]; exact HO.out
      clear HO HPW HAL hkk
      go_wp2
      go_ret2
      first | exact ⟨_, rfl, HOO.out, HBr.out⟩ | exact ⟨_, rfl, fun _ => HOO.out, HBr.out⟩


end Go.Proofs.YtdiahnommkhkiaaDoor
