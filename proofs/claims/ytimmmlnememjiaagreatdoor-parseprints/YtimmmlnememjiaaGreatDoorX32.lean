import Derived.Test.YtimmmlnememjiaaGreatDoorX
import Derived.Test.YtimmmlnememjiaaGreatDoorX00
import Derived.Lib.Builder
import Derived.Lib.OthersKept
import Derived.Lib.AppendStr
set_option maxRecDepth 100000
set_option maxHeartbeats 16000000
namespace Go.Proofs.YtimmmlnememjiaaGreatDoor
open Go.RowKit
theorem shape_of {w : World} {bp : Nat} {cs : Array Value} {T : TypeId} (h : w.heap[bp]? = some (.cells cs T)) : w.shape? bp = some (T, cs.size) := by simp [World.shape?, h]
theorem lies47 : liesAt Tryz.prog Tryz.prog.depth 47 (2 / Tryz.prog.cellsOf 47) 0 45 1 = true := by kernel_rfl
theorem info45 : (Tryz.prog.info? 45).map (fun i => i.size) = some 2 := by kernel_rfl
theorem check_nil (bp : Nat) (v : Value) (w : World) (h : w.heap[bp]? = some (.cells #[.pointer none, v] 47)) :
  Calls Tryz.prog 61 #[.pointer (some ⟨bp, 0, none⟩)] w fun e w' => e = .returned (.tuple #[]) ∧ w' = w.setCell ⟨bp, 0, none⟩ (.pointer (some ⟨bp, 0, none⟩)) := by
 have c0 : w.cell? ⟨bp, 0, none⟩ = some (.pointer none) := by simp [World.cell?, h]
 have fz : w.frozen? ⟨bp, 0, none⟩ = false := by simp [World.frozen?, h]
 have hsh : w.shape? bp = some (47, 2) := shape_of h
 have HSH : Hid (w.shape? bp = some (47, 2)) := hsh
 obtain ⟨j, hj, hjs⟩ := Option.map_eq_some_iff.1 info45
 have HJ : Hid (Tryz.prog.info? 45 = some j) := hj
 have HJS : Hid (j.size = 2) := hjs
 clear h hj hjs hsh
 go_enter Tryz.func61, Tryz.ntmps61
 go_wp2
 rw [Lib.run_to_unsafe w ⟨bp, 0, none⟩ Tryz.underlying42 Tryz.underlying122 HJ.out (by rw [HJS.out]; decide) HSH.out (Nat.zero_lt_succ 1)]
 simp only [Result.andThen]
 rw [Oper.upon_value]
 go_wp2
 rw [run_callFunc_extern Tryz.func78 (by kernel_rfl) (by kernel_rfl) (by kernel_rfl) (e := Extern.AbiNoEscape.same) (by kernel_rfl)]
 rw [Lib.run_noEscape]
 simp only [Result.andThen]
 rw [Oper.upon_value]
 go_wp2
 rw [Lib.run_from_unsafe w ⟨bp, 0, none⟩ Tryz.underlying122 Tryz.underlying42 HJ.out HSH.out lies47]
 simp only [Result.andThen]
 rw [Oper.upon_value]
 go_wp2
 go_end0
 exact ⟨rfl, rfl⟩
def PrAt (B bp : Nat) (txt : List UInt8) (w : World) : Prop :=
 B ≤ bp ∧ ∃ p v, (p = .pointer none ∨ p = .pointer (some ⟨bp, 0, none⟩)) ∧ w.heap[bp]? = some (.cells #[p, v] 47) ∧ w.ownsRow B 5 1 v txt.length (Lib.byteCells txt) ∧ v.ownBlock ≠ some bp
def Qp (B bp : Nat) (w w' : World) : Prop := Below B w w' ∧ Lib.OthersKept 5 (some bp) w w'
theorem Qp.trans {B bp : Nat} {a b c : World} (h : Qp B bp a b) (k : Qp B bp b c) : Qp B bp a c := ⟨h.1.trans k.1, h.2.trans k.2⟩
theorem Qp.refl (B bp : Nat) (w : World) : Qp B bp w w := ⟨Below.refl _ _, Lib.OthersKept.refl _ _ _⟩
theorem strCells_bs (l : List UInt8) : Lib.strCells (bs l) = Lib.byteCells l := by simp [Lib.strCells, Lib.byteCells, bs]
theorem check_used (bp : Nat) (v : Value) (w : World) (h : w.heap[bp]? = some (.cells #[.pointer (some ⟨bp, 0, none⟩), v] 47)) :
  Calls Tryz.prog 61 #[.pointer (some ⟨bp, 0, none⟩)] w fun e w' => e = .returned (.tuple #[]) ∧ w' = w := by
 have c0 : w.cell? ⟨bp, 0, none⟩ = some (.pointer (some ⟨bp, 0, none⟩)) := by simp [World.cell?, h]
 obtain ⟨j, hj, hjs⟩ := Option.map_eq_some_iff.1 info45
 have HJ : Hid (Tryz.prog.info? 45 = some j) := hj
 clear h hj hjs
 go_enter Tryz.func61, Tryz.ntmps61
 go_wp2
 rw [Lib.run_neq_ptr_same w _ Tryz.underlying42 HJ.out]
 go_wp2
 go_end0
 exact ⟨rfl, rfl⟩
theorem check_any {B bp : Nat} {txt : List UInt8} {w : World} (h : PrAt B bp txt w) :
  Calls Tryz.prog 61 #[.pointer (some ⟨bp, 0, none⟩)] w fun e w' => e = .returned (.tuple #[]) ∧ (∃ v, w'.heap[bp]? = some (.cells #[.pointer (some ⟨bp, 0, none⟩), v] 47) ∧ w'.ownsRow B 5 1 v txt.length (Lib.byteCells txt) ∧ v.ownBlock ≠ some bp) ∧ Qp B bp w w' := by
 obtain ⟨hB, p, v, hp, hb, ho, hn⟩ := h
 rcases hp with rfl | rfl
 ·refine (check_nil bp v w hb).mono ?_
  rintro e w' ⟨rfl, rfl⟩
  have hs := heap_setCell_self (o := 0) (u := .pointer (some ⟨bp, 0, none⟩)) hb
  refine ⟨rfl, ⟨v, hs, ?_, hn⟩, (Below.refl _ _).setCell (p := ⟨bp, 0, none⟩) hB _, (Lib.OthersKept.refl 5 (some bp) w).setCell ⟨bp, 0, none⟩ rfl _⟩
  refine ⟨ho.1, ?_⟩
  rcases ho.2 with h0 | ⟨g, cap, cur, hv, h1, h2, h3⟩
  ·exact .inl h0
  ·refine .inr ⟨g, cap, cur, hv, h1, ?_, h3⟩
   rw [Below.heap_setCell _ _ _ _ (by intro e; apply hn; rw [hv]; simp [Value.ownBlock]; exact e)]; exact h2
 ·refine (check_used bp v w hb).mono ?_
  rintro e w' ⟨rfl, rfl⟩
  exact ⟨rfl, ⟨v, hb, ho, hn⟩, Qp.refl _ _ _⟩
theorem info5 : (Tryz.prog.info? 5).map (fun i => (i.zero, i.size, i.bytes)) = some (some (.int .u8 0), 1, 1) := by kernel_rfl
theorem info5' : ∃ i, Tryz.prog.info? 5 = some i ∧ i.zero = some (.int .u8 0) ∧ i.size = 1 ∧ i.bytes = 1 := by
 have h := info5
 cases hi : Tryz.prog.info? 5 with
 | none => rw [hi] at h; cases h
 | some i => rw [hi] at h; simp at h; exact ⟨i, rfl, h.1, h.2.1, h.2.2⟩
theorem own_five {w : World} {B : Nat} {v : Value} {n : Nat} {xs : List Value} (h : w.ownsRow B 5 1 v n xs) : ∀ g, v.ownBlock = some g → B ≤ g ∧ ∃ c fz, w.heap[g]? = some (.cells c 5 fz) := by
 intro g hg
 rcases h.2 with ⟨rfl, _⟩ | ⟨g', cap, cur, rfl, h1, h2, _⟩
 ·simp [Value.ownBlock] at hg
 ·simp [Value.ownBlock] at hg; subst hg; exact ⟨h1, cur, _, h2⟩
theorem slice_of {w : World} {B : Nat} {e : TypeId} {sz : Nat} {v : Value} {n : Nat} {xs : List Value} (h : w.ownsRow B e sz v n xs) : ∃ ao nn cap, v = .slice ao nn cap := by
 rcases h.2 with ⟨rfl, _⟩ | ⟨g', cap, cur, rfl, _⟩
 ·exact ⟨_, _, _, rfl⟩
 ·exact ⟨_, _, _, rfl⟩
def WrPost (B bp : Nat) (txt : List UInt8) (w : World) (e : Ending) (w' : World) : Prop :=
 (∃ a b, e = .returned (.tuple #[a, b])) ∧ PrAt B bp txt w' ∧ Qp B bp w w'
theorem write_any {B bp : Nat} {txt : List UInt8} {w : World} (h : PrAt B bp txt w) (t : List UInt8) (hBw : B ≤ w.heap.size) (hlen : txt.length + t.length ≤ 140737488355328) :
  Calls Tryz.prog 42 #[.pointer (some ⟨bp, 0, none⟩), .string (bs t)] w (WrPost B bp (txt ++ t) w) := by
 obtain ⟨i5, hi, hz, hsz, hby⟩ := info5'
 have HI5 : Hid _ := hi
 have HZ5 : Hid _ := hz
 have HS5 : Hid _ := hsz
 have HB5 : Hid _ := hby
 have HP : Hid _ := h
 have HBp : Hid (B ≤ bp) := h.1
 clear hi hz hsz hby h
 go_enter Tryz.func42, Tryz.ntmps42
 go_wp2_with fail
 refine (check_any HP.out).mono ?_
 rintro e w1 ⟨rfl, ⟨v, hbk, hown, hne⟩, hq1⟩
 have HQ1 : Hid _ := hq1
 have HO : Hid _ := hown
 have HBK : Hid _ := hbk
 have HNE : Hid _ := hne
 have c0 : w1.cell? ⟨bp, 0, none⟩ = some (.pointer (some ⟨bp, 0, none⟩)) := by simp [World.cell?, hbk]
 have c1 : w1.cell? ⟨bp, 1, none⟩ = some v := by simp [World.cell?, hbk]
 have hz1 : B ≤ w1.heap.size := by have := hq1.1.size; omega
 have hlt : bp < w1.heap.size := by
  rcases Nat.lt_or_ge bp w1.heap.size with h' | h'
  ·exact h'
  ·simp [Array.getElem?_eq_none h'] at hbk
 have hst : (bs t).size = t.length := bs_size t
 have HST : Hid _ := hst
 clear hq1 hown hbk hne hst
 go_wp2_with (at_builtin; (refine Lib.wpList_append_own_string _ rfl (.tmp 12) (.tmp 13) 43 9 rfl B 5 i5 Tryz.underlying43 Tryz.underlying9 HI5.out HZ5.out HS5.out HB5.out v _ _ rfl HO.out (bs t) rfl (by simp only [maxLen]; have := HST.out; omega) (by have := HST.out; omega) hz1 ?_); intro v' w2 hown2 hgrow2 hnil2; obtain ⟨ao, nn, cap, hv'⟩ := slice_of hown2; subst hv'; have HO2 : Hid _ := hown2; have HG2 : Hid _ := hgrow2; have hb2 : w2.heap[bp]? = some (.cells #[.pointer (some ⟨bp, 0, none⟩), v] 47) := (hgrow2.block bp hlt (fun e => HNE.out e.symm)).trans HBK.out; have HB2 : Hid _ := hb2; have d0 : w2.cell? ⟨bp, 0, none⟩ = some (.pointer (some ⟨bp, 0, none⟩)) := (by simp [World.cell?, hb2]); have d1 : w2.cell? ⟨bp, 1, none⟩ = some v := (by simp [World.cell?, hb2]); have f1 : w2.frozen? ⟨bp, 1, none⟩ = false := (by simp [World.frozen?, hb2]); clear hown2 hgrow2 hnil2 hb2 c0 c1)
 go_ret2
 have hs := heap_setCell_self (o := 1) (u := .slice ao nn cap) HB2.out
 have hot : w2.ownsRow B 5 1 (.slice ao nn cap) (txt ++ t).length (Lib.byteCells (txt ++ t)) := by
  have h := HO2.out
  rw [strCells_bs, HST.out] at h
  rw [lnA]
  have e : Lib.byteCells (txt ++ t) = Lib.byteCells txt ++ Lib.byteCells t := by simp [Lib.byteCells]
  rw [e]; exact h
 have hnb : Value.ownBlock (.slice ao nn cap) ≠ some bp := by
  intro e
  obtain ⟨_, c, fz, hc⟩ := own_five hot bp e
  rw [HB2.out] at hc
  cases hc
 refine ⟨⟨_, _, rfl⟩, ⟨HBp.out, _, _, Or.inr rfl, hs, ?_, hnb⟩, ?_⟩
 ·refine ⟨hot.1, ?_⟩
  rcases hot.2 with h0 | ⟨g, cap', cur, hv, h1, h2, h3⟩
  ·exact .inl h0
  ·refine .inr ⟨g, cap', cur, hv, h1, ?_, h3⟩
   rw [Below.heap_setCell _ _ _ _ (by intro e; apply hnb; rw [hv]; simp [Value.ownBlock]; exact e)]; exact h2
 ·refine Qp.trans HQ1.out ⟨?_, ?_⟩
  ·exact ((Below.refl B w1).grown HG2.out hz1 (fun k hk => (own_five HO.out k hk).1)).setCell (p := ⟨bp, 1, none⟩) HBp.out _
  ·exact ((Lib.OthersKept.refl 5 (some bp) w1).grown HG2.out (fun g hg => (own_five HO.out g hg).2)).setCell ⟨bp, 1, none⟩ rfl _
theorem Qp.heap {B bp : Nat} {w w' : World} (h : Qp B bp w w') {k : Nat} {cs : Array Value} {T : TypeId} {fz : Nat × Nat} (hk : w.heap[k]? = some (.cells cs T fz)) (hb : k ≠ bp) (hT : T ≠ 5) : w'.heap[k]? = some (.cells cs T fz) :=
 h.2 k _ hk (by simpa using hb) (fun c fz e => by cases e; exact hT rfl)
def PutPost (B bp : Nat) (txt : List UInt8) (w : World) (e : Ending) (w' : World) : Prop :=
 e = .returned (.tuple #[]) ∧ PrAt B bp txt w' ∧ Qp B bp w w'
theorem put_any {B bp b : Nat} {txt : List UInt8} {w : World} (h : PrAt B bp txt w) (ts : List (List UInt8)) (hts : w.heap[b]? = some (.cells (ts.map (fun t => Value.string (bs t))).toArray 9)) (hb : b ≠ bp) (hBw : B ≤ w.heap.size) (hn : ts.length ≤ 100) (hlen : txt.length + ts.flatten.length ≤ 140737488355328) :
  Calls Tryz.prog 23 #[.pointer (some ⟨bp, 0, none⟩), .slice (some ⟨b, 0, none⟩) ts.length ts.length] w (PutPost B bp (txt ++ ts.flatten) w) := by
 have HP : Hid _ := h
 have HT : Hid _ := hts
 clear h hts
 go_enter Tryz.func23, Tryz.ntmps23
 go_wp2_with fail
 go_loopw [5, 8] (fun _ i w' => ∃ k : Nat, k ≤ ts.length ∧ i = .int .i64 k ∧ Hid (PrAt B bp (txt ++ (ts.take k).flatten) w') ∧ Hid (Qp B bp w w')) (fun _ i _ => ts.length - (intOf i).toNat)
 case atStart => exact ⟨0, Nat.zero_le _, rfl, (by show PrAt B bp (txt ++ (ts.take 0).flatten) w; rw [List.take_zero, List.flatten_nil, List.append_nil]; exact HP.out), Qp.refl _ _ _⟩
 case round =>
  obtain ⟨k, hk, rfl, HR, HQ⟩ := hrel
  by_cases hlt : k < ts.length
  ·have hc : wr.cell? ⟨b, k, none⟩ = some (.string (bs ts[k])) := by
    have := HQ.out.heap HT.out hb (by decide)
    simp [World.cell?, this, hlt]
   have hfl : (txt ++ (ts.take k).flatten).length + ts[k].length ≤ 140737488355328 := by
    have e : ts.flatten = (ts.take k).flatten ++ (ts[k] ++ (ts.drop (k + 1)).flatten) := by
     conv => lhs; rw [← List.take_append_drop k ts, List.flatten_append, List.drop_eq_getElem_cons hlt, List.flatten_cons]
    have hl := hlen
    rw [e] at hl
    simp only [lnA] at hl ⊢
    omega
   have HN : Hid (txt ++ (ts.take k).flatten ++ ts[k] = txt ++ (ts.take (k + 1)).flatten) := by
    show _ = _
    rw [List.take_succ_eq_append_getElem hlt, List.flatten_append]; simp
   have hzr : B ≤ wr.heap.size := by have := HQ.out.1.size; omega
   have HW : Hid (∀ wx, wx = wr → Calls Tryz.prog 42 #[.pointer (some ⟨bp, 0, none⟩), .string (bs ts[k])] wx (WrPost B bp (txt ++ (ts.take k).flatten ++ ts[k]) wx)) := fun wx e => by subst e; exact write_any HR.out ts[k] hzr hfl
   generalize ts[k] = tk at *
   clear hfl
   go_wp2_with fail
   refine (HW.out _ rfl).mono ?_
   rintro e w2 ⟨⟨ea, eb, rfl⟩, hp2, hq2⟩
   have HP2 : Hid _ := hp2
   have HQ2 : Hid _ := hq2
   clear hp2 hq2
   go_wp2_with fail
   exact ⟨⟨k + 1, by omega, by go_num, by have := HP2.out; rw [HN.out] at this; exact this, Qp.trans HQ.out HQ2.out⟩, by simp [intOf]; omega⟩
  ·go_wp2_with fail
   go_end0
   refine ⟨rfl, ?_, HQ.out⟩
   have := HR.out
   rw [List.take_of_length_le (by omega)] at this
   exact this
def Puts (B bp : Nat) (w0 : World) (F : FuncId) (args : Array Value) (t : List UInt8) : Prop :=
 ∀ (w : World) (tx : List UInt8), Below B w0 w → B ≤ w.heap.size → PrAt B bp tx w → tx.length + t.length ≤ 140737488355328 → Calls Tryz.prog F args w (PutPost B bp (tx ++ t) w)
theorem Puts.to {B bp : Nat} {w0 : World} {F : FuncId} {args : Array Value} {t t' : List UInt8} (h : Puts B bp w0 F args t) (e : t = t') : Puts B bp w0 F args t' := e ▸ h
theorem PrAt.lt {B bp : Nat} {tx : List UInt8} {w : World} (h : PrAt B bp tx w) : bp < w.heap.size := by
 obtain ⟨_, p, v, _, hb, _⟩ := h
 rcases Nat.lt_or_ge bp w.heap.size with h' | h'
 ·exact h'
 ·simp [Array.getElem?_eq_none h'] at hb
theorem own_alloc {w : World} {B : Nat} {e : TypeId} {size : Nat} {v : Value} {n : Nat} {xs : List Value} (h : w.ownsRow B e size v n xs) (o : Obj) : (w.alloc o).ownsRow B e size v n xs := by
 refine ⟨h.1, ?_⟩
 rcases h.2 with h0 | ⟨g, cap, cur, hv, h1, h2, h3⟩
 ·exact .inl h0
 ·refine .inr ⟨g, cap, cur, hv, h1, ?_, h3⟩
  have hl : g < w.heap.size := by
   rcases Nat.lt_or_ge g w.heap.size with h' | h'
   ·exact h'
   ·simp [Array.getElem?_eq_none h'] at h2
  rw [Below.heap_alloc w o g hl]; exact h2
theorem PrAt.alloc {B bp : Nat} {tx : List UInt8} {w : World} (h : PrAt B bp tx w) (o : Obj) : PrAt B bp tx (w.alloc o) := by
 have hl := h.lt
 obtain ⟨h0, p, v, h1, hb, ho, hn⟩ := h
 exact ⟨h0, p, v, h1, (Below.heap_alloc w o bp hl).trans hb, own_alloc ho o, hn⟩
theorem Qp.alloc {B bp : Nat} {w w' : World} (h : Qp B bp w w') (hB : B ≤ w'.heap.size) (o : Obj) : Qp B bp w (w'.alloc o) := ⟨h.1.alloc hB o, h.2.alloc o⟩
theorem cell_of {w : World} {k : Nat} {cs : Array Value} {T : TypeId} {fz : Nat × Nat} (h : w.heap[k]? = some (.cells cs T fz)) (o : Nat) : w.cell? ⟨k, o, none⟩ = cs[o]? := by
 simp [World.cell?, h]
theorem hidp {p : Prop} (h : p) : Hid p := h
theorem heap_new (w : World) (o : Obj) : (w.alloc o).heap[w.heap.size]? = some o := by unfold World.alloc; simp
theorem q_box {B bp : Nat} {tx : List UInt8} {w W : World} {cs : Array Value} {T : TypeId} (hp : PrAt B bp tx w) (hB : B ≤ w.heap.size) (hW : w.alloc (.cells cs T) = W) :
  PrAt B bp tx W ∧ B ≤ W.heap.size ∧ Qp B bp w W ∧ W.heap[w.heap.size]? = some (.cells cs T) ∧ w.heap.size ≠ bp ∧ w.heap.size + 1 = W.heap.size := by
 subst hW
 exact ⟨hp.alloc _, by simp; omega, (Qp.refl _ _ _).alloc hB _, heap_new _ _, fun e => by have := hp.lt; omega, by simp⟩
theorem Qp.le {B bp : Nat} {w w' : World} (h : Qp B bp w w') (hB : B ≤ w.heap.size) : B ≤ w'.heap.size := Nat.le_trans hB h.1.size
theorem put1 {B bp : Nat} {tx : List UInt8} {w : World} (hp : PrAt B bp tx w) (hB : B ≤ w.heap.size) {b : Nat} (hbb : b = w.heap.size) (s : ByteArray) (t : List UInt8) (hs : s = bs t) (hl : tx.length + t.length ≤ 140737488355328) :
  Calls Tryz.prog 23 #[.pointer (some ⟨bp, 0, none⟩), .slice (some ⟨b, 0, none⟩) 1 1] (w.alloc (.cells #[.string s] 9)) (PutPost B bp (tx ++ t) w) := by
 subst hbb hs
 have h := put_any (b := w.heap.size) (hp.alloc (.cells #[.string (bs t)] 9)) [t] (heap_new _ _) (fun e => by have := hp.lt; omega) (by simp; omega) (by simp) (by simpa using hl)
 refine h.mono ?_
 rintro e w2 ⟨he, h1, h2⟩
 exact ⟨he, by simpa using h1, Qp.trans ((Qp.refl _ _ _).alloc hB _) h2⟩
theorem put2 {B bp : Nat} {tx : List UInt8} {w : World} (hp : PrAt B bp tx w) (hB : B ≤ w.heap.size) {b : Nat} (hbb : b = w.heap.size) (s s' : ByteArray) (t t' : List UInt8) (hs : s = bs t) (hs' : s' = bs t') (hl : tx.length + (t.length + t'.length) ≤ 140737488355328) :
  Calls Tryz.prog 23 #[.pointer (some ⟨bp, 0, none⟩), .slice (some ⟨b, 0, none⟩) 2 2] (w.alloc (.cells #[.string s, .string s'] 9)) (PutPost B bp (tx ++ t ++ t') w) := by
 subst hbb hs hs'
 have h := put_any (b := w.heap.size) (hp.alloc (.cells #[.string (bs t), .string (bs t')] 9)) [t, t'] (heap_new _ _) (fun e => by have := hp.lt; omega) (by simp; omega) (by simp) (by simpa using hl)
 refine h.mono ?_
 rintro e w2 ⟨he, h1, h2⟩
 exact ⟨he, by simpa using h1, Qp.trans ((Qp.refl _ _ _).alloc hB _) h2⟩
theorem put3 {B bp : Nat} {tx : List UInt8} {w : World} (hp : PrAt B bp tx w) (hB : B ≤ w.heap.size) {b : Nat} (hbb : b = w.heap.size) (s s' s2 : ByteArray) (t t' t2 : List UInt8) (hs : s = bs t) (hs' : s' = bs t') (hs2 : s2 = bs t2) (hl : tx.length + (t.length + t'.length + t2.length) ≤ 140737488355328) :
  Calls Tryz.prog 23 #[.pointer (some ⟨bp, 0, none⟩), .slice (some ⟨b, 0, none⟩) 3 3] (w.alloc (.cells #[.string s, .string s', .string s2] 9)) (PutPost B bp (tx ++ t ++ t' ++ t2) w) := by
 subst hbb hs hs' hs2
 have h := put_any (b := w.heap.size) (hp.alloc (.cells #[.string (bs t), .string (bs t'), .string (bs t2)] 9)) [t, t', t2] (heap_new _ _) (fun e => by have := hp.lt; omega) (by simp; omega) (by simp) (by simpa [Nat.add_assoc] using hl)
 refine h.mono ?_
 rintro e w2 ⟨he, h1, h2⟩
 exact ⟨he, by simpa using h1, Qp.trans ((Qp.refl _ _ _).alloc hB _) h2⟩
def Vals (B bp : Nat) (w0 : World) (F : FuncId) (args : Array Value) (t : List UInt8) : Prop :=
 ∀ (w : World) (tx : List UInt8), Below B w0 w → B ≤ w.heap.size → PrAt B bp tx w → Calls Tryz.prog F args w fun e w' => e = .returned (.string (bs t)) ∧ PrAt B bp tx w' ∧ Qp B bp w w'
theorem q_boxH {B bp : Nat} {tx : List UInt8} {w W : World} {cs : Array Value} {T : TypeId} (hp : Hid (PrAt B bp tx w)) (hB : B ≤ w.heap.size) (hW : w.alloc (.cells cs T) = W) :
  Hid (PrAt B bp tx W) ∧ B ≤ W.heap.size ∧ Hid (Qp B bp w W) ∧ Hid (W.heap[w.heap.size]? = some (.cells cs T)) ∧ Hid (w.heap.size ≠ bp) ∧ Hid (w.heap.size + 1 = W.heap.size) := q_box hp.out hB hW
theorem nx {B bp : Nat} {tx : List UInt8} {w a a1 : World} {F : FuncId} {args : Array Value} {K : Ending → World → Prop} (HQ : Hid (Qp B bp w a)) (z : B ≤ a.heap.size) (h : Calls Tryz.prog F args a1 (PutPost B bp tx a))
  (k : ∀ b, Hid (PrAt B bp tx b) → Hid (Qp B bp w b) → B ≤ b.heap.size → K (.returned (.tuple #[])) b) : Calls Tryz.prog F args a1 K :=
 h.mono fun _ b ⟨e, hp, hq⟩ => by subst e; exact k b hp (Qp.trans HQ.out hq) (Qp.le hq z)
theorem nxb {B bp : Nat} {tx : List UInt8} {w a a1 : World} {F : FuncId} {args : Array Value} {K : Ending → World → Prop} {n : Nat} {cs : Array Value} {T : TypeId} {fz : Nat × Nat} (HQ : Hid (Qp B bp w a)) (z : B ≤ a.heap.size) (HK : Hid (a.heap[n]? = some (.cells cs T fz))) (HN : Hid (n ≠ bp)) (hT : T ≠ 5) (h : Calls Tryz.prog F args a1 (PutPost B bp tx a))
  (k : ∀ b, Hid (PrAt B bp tx b) → Hid (Qp B bp w b) → B ≤ b.heap.size → Hid (b.heap[n]? = some (.cells cs T fz)) → K (.returned (.tuple #[])) b) : Calls Tryz.prog F args a1 K :=
 h.mono fun _ b ⟨e, hp, hq⟩ => by subst e; exact k b hp (Qp.trans HQ.out hq) (Qp.le hq z) (hq.heap HK.out HN.out hT)
theorem nxv {B bp : Nat} {tx t : List UInt8} {w a a1 : World} {F : FuncId} {args : Array Value} {K : Ending → World → Prop} (HQ : Hid (Qp B bp w a)) (z : B ≤ a.heap.size) (h : Calls Tryz.prog F args a1 fun e b => e = .returned (.string (bs t)) ∧ PrAt B bp tx b ∧ Qp B bp a b)
  (k : ∀ b, Hid (PrAt B bp tx b) → Hid (Qp B bp w b) → B ≤ b.heap.size → K (.returned (.string (bs t))) b) : Calls Tryz.prog F args a1 K :=
 h.mono fun _ b ⟨e, hp, hq⟩ => by subst e; exact k b hp (Qp.trans HQ.out hq) (Qp.le hq z)
theorem nxvb {B bp : Nat} {tx t : List UInt8} {w a a1 : World} {F : FuncId} {args : Array Value} {K : Ending → World → Prop} {n : Nat} {cs : Array Value} {T : TypeId} {fz : Nat × Nat} (HQ : Hid (Qp B bp w a)) (z : B ≤ a.heap.size) (HK : Hid (a.heap[n]? = some (.cells cs T fz))) (HN : Hid (n ≠ bp)) (hT : T ≠ 5) (h : Calls Tryz.prog F args a1 fun e b => e = .returned (.string (bs t)) ∧ PrAt B bp tx b ∧ Qp B bp a b)
  (k : ∀ b, Hid (PrAt B bp tx b) → Hid (Qp B bp w b) → B ≤ b.heap.size → Hid (b.heap[n]? = some (.cells cs T fz)) → K (.returned (.string (bs t))) b) : Calls Tryz.prog F args a1 K :=
 h.mono fun _ b ⟨e, hp, hq⟩ => by subst e; exact k b hp (Qp.trans HQ.out hq) (Qp.le hq z) (hq.heap HK.out HN.out hT)
theorem cl {w : World} {k : Nat} {cs : Array Value} {T : TypeId} {fz : Nat × Nat} (h : Hid (w.heap[k]? = some (.cells cs T fz))) (o : Nat) (v : Value) (e : cs[o]? = some v) : w.cell? ⟨k, o, none⟩ = some v := (cell_of h.out o).trans e
theorem dl {B bp : Nat} {w0 w a : World} {b o : Nat} {v : Value} (HB : Hid (Below B w0 w)) (HQ : Hid (Qp B bp w a)) (hb : Hid (b < B)) (m : Hid (w0.cell? ⟨b, o, none⟩ = some v)) : a.cell? ⟨b, o, none⟩ = some v :=
 ((HB.out.trans HQ.out.1).cell (p := ⟨b, o, none⟩) hb.out).trans m.out
end Go.Proofs.YtimmmlnememjiaaGreatDoor
