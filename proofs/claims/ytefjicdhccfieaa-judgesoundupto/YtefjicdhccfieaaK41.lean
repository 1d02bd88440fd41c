import Derived.Test.YtefjicdhccfieaaK01
import Derived.Test.YtefjicdhccfieaaK40
set_option maxRecDepth 100000
set_option maxHeartbeats 16000000
namespace Go.Proofs.Ytefjicdhccfieaa
open Go.RowKit
theorem step_make_full {P : Program} {ops : Array Oper} {o : Oper} {a : Act} {w : World} {K : Act → World → Prop} {Q : Exit → Act → World → Prop} {E : Prop} (hg : o.guard = none) (l c : Operand) (t : TypeId) (hop : o.op = Op.makeSlice t l c)
  (base : Nat) (e : TypeId) (i : TypeInfo) (z : Value) (size : Nat) (h1 : P.underlying t = some (.slice e)) (h2 : P.info? e = some i) (h3 : i.zero = some z) (h4 : i.size = size)
  (kl kc : IntKind) (L C : Int) (n : Nat) (hl : a.eval l = .int kl L) (hc : a.eval c = .int kc C) (hL : L = (n : Int)) (hC : C = (n : Int)) (b2 : i.bytes * n ≤ 281474976710656) (b3 : n ≤ maxLen) (b4 : base ≤ w.heap.size)
  (h : ∀ w', w'.ownsRow base e size (.slice (some ⟨w.heap.size, 0, none⟩) n n) n (madeCells z.cells (n * size)).toList → w.grownBy w' none → K (a.put o.dst (.slice (some ⟨w.heap.size, 0, none⟩) n n)) w') :
  if Region.wanted o (yielded ops a.tmps) = true then Oper.wp P o a w K Q else E := by
 have hw : Region.wanted o (yielded ops a.tmps) = true := by simp [Region.wanted, hg]
 rw [if_pos hw]
 obtain ⟨w', hrun, r1, r2⟩ := run_make_full (P := P) w base t e i z size h1 h2 h3 h4 kl kc n b2 b3 b4
 subst hL
 subst hC
 unfold Oper.wp
 simp [execOp, hop, hl, hc, hrun, Result.andThen]
 exact h w' r1 r2
theorem region_mid {P : Program} {id : Nat} {ops : Array Oper} {b : Bool} {Q : Exit → Act → World → Prop} {a : Act} {w : World} (Pr : Act → World → Prop) (h1 : (Code.region id ops b).wp P (fun e a' w' => e = .normal ∧ Pr a' w') a w) (h2 : ∀ a' w', Pr a' w' → Q .normal a' w') : (Code.region id ops b).wp P Q a w :=
 Code.wp_mono (fun e a' w' h => by obtain ⟨rfl, h⟩ := h; exact h2 a' w' h) h1
theorem info_i80 : (Try.prog.info? 84).map (fun i => (i.zero, i.size, i.bytes)) = some (some (.int .i8 0), 1, 1) := by kernel_rfl
theorem info_i8 : ∃ i, Try.prog.info? 84 = some i ∧ i.zero = some (.int .i8 0) ∧ i.size = 1 ∧ i.bytes = 1 := by
 have h := info_i80
 cases hi : Try.prog.info? 84 with
 | none => rw [hi] at h; cases h
 | some i => rw [hi] at h; simp at h; exact ⟨i, rfl, h.1, h.2.1, h.2.2⟩
theorem info_i320 : (Try.prog.info? 21).map (fun i => (i.zero, i.size, i.bytes)) = some (some (.int .i32 0), 1, 4) := by kernel_rfl
theorem info_i32 : ∃ i, Try.prog.info? 21 = some i ∧ i.zero = some (.int .i32 0) ∧ i.size = 1 ∧ i.bytes = 4 := by
 have h := info_i320
 cases hi : Try.prog.info? 21 with
 | none => rw [hi] at h; cases h
 | some i => rw [hi] at h; simp at h; exact ⟨i, rfl, h.1, h.2.1, h.2.2⟩
theorem info_bool0 : (Try.prog.info? 4).map (fun i => (i.zero, i.size, i.bytes)) = some (some (.bool false), 1, 1) := by kernel_rfl
theorem info_bool : ∃ i, Try.prog.info? 4 = some i ∧ i.zero = some (.bool false) ∧ i.size = 1 ∧ i.bytes = 1 := by
 have h := info_bool0
 cases hi : Try.prog.info? 4 with
 | none => rw [hi] at h; cases h
 | some i => rw [hi] at h; simp at h; exact ⟨i, rfl, h.1, h.2.1, h.2.2⟩
theorem info_wls0 : (Try.prog.info? 86).map (fun i => (i.zero, i.size, i.bytes)) = some (some (.slice none 0 0), 1, 24) := by kernel_rfl
theorem info_wls : ∃ i, Try.prog.info? 86 = some i ∧ i.zero = some (.slice none 0 0) ∧ i.size = 1 ∧ i.bytes = 24 := by
 have h := info_wls0
 cases hi : Try.prog.info? 86 with
 | none => rw [hi] at h; cases h
 | some i => rw [hi] at h; simp at h; exact ⟨i, rfl, h.1, h.2.1, h.2.2⟩
theorem made_i8 (n : Nat) : (madeCells ((.int .i8 0 : Value)).cells (n * 1)).toList = List.replicate n (.int .i8 0) := by
 rw [Nat.mul_one]
 apply List.ext_getElem?
 intro i
 by_cases h : i < n
 ·simp [madeCells, Value.cells, h, Nat.mod_one]
 ·simp [madeCells, Value.cells, h]
theorem own_i8 {w : World} {C n : Nat} {v : Value} (h : w.ownsRow C 84 1 v n (madeCells ((.int .i8 0 : Value)).cells (n * 1)).toList) : w.ownsRow C 84 1 v n (List.replicate n (.int .i8 0)) := by rwa [made_i8] at h
theorem made_i32 (n : Nat) : (madeCells ((.int .i32 0 : Value)).cells (n * 1)).toList = List.replicate n (.int .i32 0) := by
 rw [Nat.mul_one]
 apply List.ext_getElem?
 intro i
 by_cases h : i < n
 ·simp [madeCells, Value.cells, h, Nat.mod_one]
 ·simp [madeCells, Value.cells, h]
theorem own_i32 {w : World} {C n : Nat} {v : Value} (h : w.ownsRow C 21 1 v n (madeCells ((.int .i32 0 : Value)).cells (n * 1)).toList) : w.ownsRow C 21 1 v n (List.replicate n (.int .i32 0)) := by rwa [made_i32] at h
theorem made_bool (n : Nat) : (madeCells ((.bool false : Value)).cells (n * 1)).toList = List.replicate n (.bool false) := by
 rw [Nat.mul_one]
 apply List.ext_getElem?
 intro i
 by_cases h : i < n
 ·simp [madeCells, Value.cells, h, Nat.mod_one]
 ·simp [madeCells, Value.cells, h]
theorem own_bool {w : World} {C n : Nat} {v : Value} (h : w.ownsRow C 4 1 v n (madeCells ((.bool false : Value)).cells (n * 1)).toList) : w.ownsRow C 4 1 v n (List.replicate n (.bool false)) := by rwa [made_bool] at h
theorem made_nil (n : Nat) : (madeCells ((.slice none 0 0 : Value)).cells (n * 1)).toList = List.replicate n (.slice none 0 0) := by
 rw [Nat.mul_one]
 apply List.ext_getElem?
 intro i
 by_cases h : i < n
 ·simp [madeCells, Value.cells, h, Nat.mod_one]
 ·simp [madeCells, Value.cells, h]
structure Made3 (w w' : World) (bb hb rb ub V N : Nat) : Prop where
 h : w'.ownsRow w.heap.size 84 1 (.slice (some ⟨hb, 0, none⟩) N N) N (List.replicate N (.int .i8 0))
 r : w'.ownsRow w.heap.size 21 1 (.slice (some ⟨rb, 0, none⟩) V V) V (List.replicate V (.int .i32 0))
 u : w'.ownsRow w.heap.size 4 1 (.slice (some ⟨ub, 0, none⟩) V V) V (List.replicate V (.bool false))
 board : w'.heap[bb]? = some (.cells #[.slice none 0 0, .slice none 0 0, .slice none 0 0, .slice (some ⟨hb, 0, none⟩) N N, .slice (some ⟨rb, 0, none⟩) V V, .slice (some ⟨ub, 0, none⟩) V V, .slice none 0 0, .int .i64 0, .int .i64 0, .bool false, .int .i64 0, .int .i64 0] 73 (0, 0))
 a1 : hb ≠ rb
 a2 : hb ≠ ub
 a3 : rb ≠ ub
 a4 : hb < bb
 a5 : rb < bb
 a6 : ub < bb
 b : Below w.heap.size w w'
def St.new (V : Nat) : St := ⟨V, [], fun _ _ => [], List.replicate (2 * V) 0, List.replicate V 0, List.replicate V false, [], 0, 0, false, 0, 0⟩
def sl0 (V N hb rb ub : Nat) : Site → Slot
 | .held => ⟨.slice (some ⟨hb, 0, none⟩) N N, N, List.replicate N (.int .i8 0)⟩
 | .reason => ⟨.slice (some ⟨rb, 0, none⟩) V V, V, List.replicate V (.int .i32 0)⟩
 | .used => ⟨.slice (some ⟨ub, 0, none⟩) V V, V, List.replicate V (.bool false)⟩
 | _ => ⟨.slice none 0 0, 0, []⟩
theorem Made3.rows {w w' : World} {bb hb rb ub V N : Nat} (h : Made3 w w' bb hb rb ub V N) : Rows' w.heap.size w' bb (fields (sl0 V N hb rb ub) (St.new V)) (sl0 V N hb rb ub) := by
 have q1 := (h.h.lt hb rfl).1
 refine ⟨fun s => ?_, fun s s' k h1 h2 => ?_, fun s hk => ?_, h.board, by have := h.a4; omega⟩
 ·cases s <;> first | exact h.h | exact h.r | exact h.u | exact World.ownsRow_nil _ _ _ _
 ·have a1 := h.a1
  have a2 := h.a2
  have a3 := h.a3
  cases s <;> cases s' <;> simp [sl0, Value.ownBlock] at h1 h2 <;> first | rfl | omega
 ·have a4 := h.a4
  have a5 := h.a5
  have a6 := h.a6
  cases s <;> simp [sl0, Value.ownBlock] at hk <;> omega
structure NB (V N t : Nat) (sl : Site → Slot) : Prop where
 held : (sl .held).n = N ∧ (sl .held).xs = List.replicate N (.int .i8 0)
 reason : (sl .reason).n = V ∧ (sl .reason).xs = List.replicate V (.int .i32 0)
 used : (sl .used).n = V ∧ (sl .used).xs = List.replicate V (.bool false)
 trail : (sl .trail).n = 0 ∧ (sl .trail).xs = []
 clauses : (sl .clauses).n = 0
 wl : ∀ t l, sl (.wl t l) = ⟨.slice none 0 0, 0, []⟩
 row : ∀ t', t' < t → (sl (.row t')).n = N ∧ (sl (.row t')).xs = List.replicate N (.slice none 0 0)
 later : ∀ t', t ≤ t' → sl (.row t') = ⟨.slice none 0 0, 0, []⟩
theorem NB.zero (V N hb rb ub : Nat) : NB V N 0 (sl0 V N hb rb ub) := ⟨⟨rfl, rfl⟩, ⟨rfl, rfl⟩, ⟨rfl, rfl⟩, ⟨rfl, rfl⟩, rfl, fun _ _ => rfl, fun _ h => absurd h (by omega), fun _ _ => rfl⟩
theorem NB.next {V N t : Nat} {sl : Site → Slot} (h : NB V N t sl) (v : Value) : NB V N (t + 1) (setS sl (.row t) ⟨v, N, List.replicate N (.slice none 0 0)⟩) := by
 refine ⟨?_, ?_, ?_, ?_, ?_, fun t' l => ?_, fun t' ht => ?_, fun t' ht => ?_⟩
 ·simpa [setS] using h.held
 ·simpa [setS] using h.reason
 ·simpa [setS] using h.used
 ·simpa [setS] using h.trail
 ·simpa [setS] using h.clauses
 ·rw [setS_other _ _ (by intro e; cases e)]; exact h.wl t' l
 ·by_cases e : t' = t
  ·subst e; rw [setS_same]; exact ⟨rfl, rfl⟩
  ·rw [setS_other _ _ (by intro e2; injection e2; omega)]; exact h.row t' (by omega)
 ·rw [setS_other _ _ (by intro e2; injection e2; omega)]; exact h.later t' (by omega)
theorem NB.link {V : Nat} {sl : Site → Slot} (hV : V ≤ 100000) (h : NB V (2 * V) 2 sl) : Link sl (St.new V) := by
 refine ⟨hV, ⟨h.held.1, by rw [h.held.2]; simp [St.new, i8V]⟩, by simp [St.new], ⟨h.reason.1, by rw [h.reason.2]; simp [St.new, i32V]⟩, by simp [St.new], ⟨h.used.1, by rw [h.used.2]; simp [St.new, boolV]⟩, by simp [St.new], ⟨h.trail.1, h.trail.2⟩, h.clauses, fun i c hc => (by cases hc), fun i c hc => (by cases hc), fun t ht => ⟨(h.row t ht).1, fun l hl => ?_⟩, fun t l ht hl => ?_⟩
 ·have hl' : l < 2 * V := hl
  rw [(h.row t ht).2, h.wl, List.getElem?_replicate, if_pos hl']
 ·rw [h.wl]; exact ⟨rfl, rfl⟩
theorem fields_row (sl : Site → Slot) (st : St) (t : Nat) (ht : t < 2) (X : Slot) : fields (setS sl (.row t) X) st = (fields sl st).setIfInBounds (1 + t) X.v := by
 rcases (show t = 0 ∨ t = 1 by omega) with rfl | rfl <;> simp [fields, setS]
def NewP (w : World) (V : Nat) (e : Ending) (w' : World) : Prop := ∃ bb, e = .returned (.pointer (some ⟨bb, 0, none⟩)) ∧ BD w.heap.size w' bb (St.new V) ∧ Below w.heap.size w w'
theorem newBoard_any (w : World) (V : Nat) (hV : V ≤ 100000) :
  Calls Try.prog 16 #[.int .i64 (V : Int)] w fun e w' => NewP w V e w' := by
 obtain ⟨i8, hi, hz, hs, hb⟩ := info_i8
 have HI8 := hidden hi
 have HZ8 := hidden hz
 have HS8 := hidden hs
 have HB8 := hidden hb
 clear hi hz hs hb
 obtain ⟨i32, hi, hz, hs, hb⟩ := info_i32
 have HI32 := hidden hi
 have HZ32 := hidden hz
 have HS32 := hidden hs
 have HB32 := hidden hb
 clear hi hz hs hb
 obtain ⟨i1, hi, hz, hs, hb⟩ := info_bool
 have HI1 := hidden hi
 have HZ1 := hidden hz
 have HS1 := hidden hs
 have HB1 := hidden hb
 clear hi hz hs hb
 obtain ⟨i24, hi, hz, hs, hb⟩ := info_wls
 have HI24 := hidden hi
 have HZ24 := hidden hz
 have HS24 := hidden hs
 have HB24 := hidden hb
 clear hi hz hs hb
 obtain ⟨N, HN⟩ : ∃ n, Hid (n = 2 * V) := ⟨_, rfl⟩
 have hNl : N ≤ 200000 := by have := HN.out; omega
 have e1 : IntKind.i64.wrap (2 * (V : Int)) = (N : Int) := by rw [HN.out]; exact wrapI _ (by omega) (by omega)
 go_enter Try.func16, Try.ntmps16
 go_upto_region 1 with fail
 refine region_mid (fun a' w' => ∃ bb hb rb ub s12, a' = ⟨#[.int .i64 (V : Int), undef, .pointer none, .pointer (some ⟨bb, 0, none⟩), undef, .int .i64 (V : Int), .int .i64 (N : Int), .slice (some ⟨hb, 0, none⟩) N N, .int .i64 (V : Int), .slice (some ⟨rb, 0, none⟩) V V, .int .i64 (V : Int), .slice (some ⟨ub, 0, none⟩) V V, s12, .pointer (some ⟨bb, 0, none⟩), undef, undef, undef, undef, undef, undef, undef, undef, undef, undef, undef, undef, undef], []⟩ ∧ Made3 w w' bb hb rb ub V N) ?_ ?_
 ·refine wp_region_noPanic ?_
  refine wp_region_held_drew (S := fun w' => Below w.heap.size w w') (by kernel_rfl) (by first | assumption | exact Below.refl _ _ | exact Below.drew (Below.refl _ _) | exact Below.trans (by assumption) (Below.mono (by assumption) (Below.size (by assumption))) | exact Below.alloc (by assumption) (Below.size (by assumption)) _) (fun hHeld => ?_)
  refine tk 0 ?_
  refine tk 1 ?_
  refine tk 3 ?_
  refine tk 5 ?_
  refine wpAnyH_ready (rs := [2, 4, 6]) (by kernel_rfl) (by simp) ?_
  refine AllReadyH.cons (o := _) rfl (fun K hK => ?_) ?_
  ·refine step_make_full rfl (.tmp 6) (.tmp 6) 66 rfl w.heap.size 84 i8 _ 1 Try.underlying66 HI8.out HZ8.out HS8.out .i64 .i64 (N : Int) (N : Int) N rfl rfl rfl rfl (by rw [HB8.out]; omega) (by simp only [maxLen]; omega) (Below.size (w := w) (B := w.heap.size) (by first | assumption | exact Below.refl _ _ | exact Below.drew (Below.refl _ _) | exact Below.trans (by assumption) (Below.mono (by assumption) (Below.size (by assumption))) | exact Below.alloc (by assumption) (Below.size (by assumption)) _)) ?_
   intro wh hownh hgrowh
   have hbh := none_below hgrowh
   refine hK.out _ _ (by first | assumption | exact Below.refl _ _ | exact Below.drew (Below.refl _ _) | exact Below.trans (by assumption) (Below.mono (by assumption) (Below.size (by assumption))) | exact Below.alloc (by assumption) (Below.size (by assumption)) _) (fun hHeldh => ?_)
   clear hK K
   (try simp only [Act.put]); (try simp only [sA]); (try simp only [sB, sC])
   refine wpAnyH_ready (rs := [4, 6]) (by kernel_rfl) (by simp) ?_
   refine AllReadyH.cons (o := _) rfl (fun K hK => ?_) ?_
   ·refine step_make_full rfl (.tmp 8) (.tmp 8) 67 rfl w.heap.size 21 i32 _ 1 Try.underlying67 HI32.out HZ32.out HS32.out .i64 .i64 (V : Int) (V : Int) V rfl rfl rfl rfl (by rw [HB32.out]; omega) (by simp only [maxLen]; omega) (Below.size (w := w) (B := w.heap.size) (by first | assumption | exact Below.refl _ _ | exact Below.drew (Below.refl _ _) | exact Below.trans (by assumption) (Below.mono (by assumption) (Below.size (by assumption))) | exact Below.alloc (by assumption) (Below.size (by assumption)) _)) ?_
    intro wr hownr hgrowr
    have hbr := none_below hgrowr
    refine hK.out _ _ (by first | assumption | exact Below.refl _ _ | exact Below.drew (Below.refl _ _) | exact Below.trans (by assumption) (Below.mono (by assumption) (Below.size (by assumption))) | exact Below.alloc (by assumption) (Below.size (by assumption)) _) (fun hHeldr => ?_)
    clear hK K
    (try simp only [Act.put]); (try simp only [sA]); (try simp only [sB, sC])
    refine wpAnyH_ready (rs := [6]) (by kernel_rfl) (by simp) ?_
    refine AllReadyH.cons (o := _) rfl (fun K hK => ?_) AllReadyH.nil
    refine step_make_full rfl (.tmp 10) (.tmp 10) 62 rfl w.heap.size 4 i1 _ 1 Try.underlying62 HI1.out HZ1.out HS1.out .i64 .i64 (V : Int) (V : Int) V rfl rfl rfl rfl (by rw [HB1.out]; omega) (by simp only [maxLen]; omega) (Below.size (w := w) (B := w.heap.size) (by first | assumption | exact Below.refl _ _ | exact Below.drew (Below.refl _ _) | exact Below.trans (by assumption) (Below.mono (by assumption) (Below.size (by assumption))) | exact Below.alloc (by assumption) (Below.size (by assumption)) _)) ?_
    intro wu hownu hgrowu
    have hbu := none_below hgrowu
    refine hK.out _ _ (by first | assumption | exact Below.refl _ _ | exact Below.drew (Below.refl _ _) | exact Below.trans (by assumption) (Below.mono (by assumption) (Below.size (by assumption))) | exact Below.alloc (by assumption) (Below.size (by assumption)) _) (fun hHeldu => ?_)
    clear hK K
    (try simp only [Act.put]); (try simp only [sA]); (try simp only [sB, sC])
    refine tk 7 ?_
    refine wpAnyH_ready (rs := [8]) (by kernel_rfl) (by simp) ?_
    refine AllReadyH.cons (o := _) rfl (fun K hK => ?_) AllReadyH.nil
    (try simp only [gA, gB, gC])
    go_simp
    refine hK.out _ _ (by first | assumption | exact Below.refl _ _ | exact Below.drew (Below.refl _ _) | exact Below.trans (by assumption) (Below.mono (by assumption) (Below.size (by assumption))) | exact Below.alloc (by assumption) (Below.size (by assumption)) _) (fun hHeldb => ?_)
    clear hK K
    (try simp only [Act.put]); (try simp only [sA]); (try simp only [sB, sC])
    refine tk 9 ?_
    refine wpAnyH_done (by kernel_rfl) ?_ _
    refine NoPanic.normal ?_
    refine ⟨rfl, _, _, _, _, _, rfl, ?_⟩
    have la : w.heap.size < wh.heap.size := (hownh.lt _ rfl).2
    have lb : wh.heap.size < wr.heap.size := (hownr.lt _ rfl).2
    have lc : wr.heap.size < wu.heap.size := (hownu.lt _ rfl).2
    have e0 : w.drew.heap.size = w.heap.size := rfl
    exact ⟨own_i8 (own_below (own_below (own_below hownh hbr) hbu) ((Below.refl _ _).alloc (Nat.le_refl _) _)), own_i32 (own_below (own_below hownr hbu) ((Below.refl _ _).alloc (Nat.le_refl _) _)), own_bool (own_below hownu ((Below.refl _ _).alloc (Nat.le_refl _) _)), heap_new _ _, by omega, by omega, by omega, by omega, by omega, by omega, by assumption⟩
   refine AllReadyH.cons (o := _) rfl (fun K hK => ?_) AllReadyH.nil
   refine step_make_full rfl (.tmp 10) (.tmp 10) 62 rfl w.heap.size 4 i1 _ 1 Try.underlying62 HI1.out HZ1.out HS1.out .i64 .i64 (V : Int) (V : Int) V rfl rfl rfl rfl (by rw [HB1.out]; omega) (by simp only [maxLen]; omega) (Below.size (w := w) (B := w.heap.size) (by first | assumption | exact Below.refl _ _ | exact Below.drew (Below.refl _ _) | exact Below.trans (by assumption) (Below.mono (by assumption) (Below.size (by assumption))) | exact Below.alloc (by assumption) (Below.size (by assumption)) _)) ?_
   intro wu hownu hgrowu
   have hbu := none_below hgrowu
   refine hK.out _ _ (by first | assumption | exact Below.refl _ _ | exact Below.drew (Below.refl _ _) | exact Below.trans (by assumption) (Below.mono (by assumption) (Below.size (by assumption))) | exact Below.alloc (by assumption) (Below.size (by assumption)) _) (fun hHeldu => ?_)
   clear hK K
   (try simp only [Act.put]); (try simp only [sA]); (try simp only [sB, sC])
   refine wpAnyH_ready (rs := [4]) (by kernel_rfl) (by simp) ?_
   refine AllReadyH.cons (o := _) rfl (fun K hK => ?_) AllReadyH.nil
   refine step_make_full rfl (.tmp 8) (.tmp 8) 67 rfl w.heap.size 21 i32 _ 1 Try.underlying67 HI32.out HZ32.out HS32.out .i64 .i64 (V : Int) (V : Int) V rfl rfl rfl rfl (by rw [HB32.out]; omega) (by simp only [maxLen]; omega) (Below.size (w := w) (B := w.heap.size) (by first | assumption | exact Below.refl _ _ | exact Below.drew (Below.refl _ _) | exact Below.trans (by assumption) (Below.mono (by assumption) (Below.size (by assumption))) | exact Below.alloc (by assumption) (Below.size (by assumption)) _)) ?_
   intro wr hownr hgrowr
   have hbr := none_below hgrowr
   refine hK.out _ _ (by first | assumption | exact Below.refl _ _ | exact Below.drew (Below.refl _ _) | exact Below.trans (by assumption) (Below.mono (by assumption) (Below.size (by assumption))) | exact Below.alloc (by assumption) (Below.size (by assumption)) _) (fun hHeldr => ?_)
   clear hK K
   (try simp only [Act.put]); (try simp only [sA]); (try simp only [sB, sC])
   refine tk 7 ?_
   refine wpAnyH_ready (rs := [8]) (by kernel_rfl) (by simp) ?_
   refine AllReadyH.cons (o := _) rfl (fun K hK => ?_) AllReadyH.nil
   (try simp only [gA, gB, gC])
   go_simp
   refine hK.out _ _ (by first | assumption | exact Below.refl _ _ | exact Below.drew (Below.refl _ _) | exact Below.trans (by assumption) (Below.mono (by assumption) (Below.size (by assumption))) | exact Below.alloc (by assumption) (Below.size (by assumption)) _) (fun hHeldb => ?_)
   clear hK K
   (try simp only [Act.put]); (try simp only [sA]); (try simp only [sB, sC])
   refine tk 9 ?_
   refine wpAnyH_done (by kernel_rfl) ?_ _
   refine NoPanic.normal ?_
   refine ⟨rfl, _, _, _, _, _, rfl, ?_⟩
   have la : w.heap.size < wh.heap.size := (hownh.lt _ rfl).2
   have lb : wh.heap.size < wu.heap.size := (hownu.lt _ rfl).2
   have lc : wu.heap.size < wr.heap.size := (hownr.lt _ rfl).2
   have e0 : w.drew.heap.size = w.heap.size := rfl
   exact ⟨own_i8 (own_below (own_below (own_below hownh hbu) hbr) ((Below.refl _ _).alloc (Nat.le_refl _) _)), own_i32 (own_below hownr ((Below.refl _ _).alloc (Nat.le_refl _) _)), own_bool (own_below (own_below hownu hbr) ((Below.refl _ _).alloc (Nat.le_refl _) _)), heap_new _ _, by omega, by omega, by omega, by omega, by omega, by omega, by assumption⟩
  refine AllReadyH.cons (o := _) rfl (fun K hK => ?_) ?_
  ·refine step_make_full rfl (.tmp 8) (.tmp 8) 67 rfl w.heap.size 21 i32 _ 1 Try.underlying67 HI32.out HZ32.out HS32.out .i64 .i64 (V : Int) (V : Int) V rfl rfl rfl rfl (by rw [HB32.out]; omega) (by simp only [maxLen]; omega) (Below.size (w := w) (B := w.heap.size) (by first | assumption | exact Below.refl _ _ | exact Below.drew (Below.refl _ _) | exact Below.trans (by assumption) (Below.mono (by assumption) (Below.size (by assumption))) | exact Below.alloc (by assumption) (Below.size (by assumption)) _)) ?_
   intro wr hownr hgrowr
   have hbr := none_below hgrowr
   refine hK.out _ _ (by first | assumption | exact Below.refl _ _ | exact Below.drew (Below.refl _ _) | exact Below.trans (by assumption) (Below.mono (by assumption) (Below.size (by assumption))) | exact Below.alloc (by assumption) (Below.size (by assumption)) _) (fun hHeldr => ?_)
   clear hK K
   (try simp only [Act.put]); (try simp only [sA]); (try simp only [sB, sC])
   refine wpAnyH_ready (rs := [2, 6]) (by kernel_rfl) (by simp) ?_
   refine AllReadyH.cons (o := _) rfl (fun K hK => ?_) ?_
   ·refine step_make_full rfl (.tmp 6) (.tmp 6) 66 rfl w.heap.size 84 i8 _ 1 Try.underlying66 HI8.out HZ8.out HS8.out .i64 .i64 (N : Int) (N : Int) N rfl rfl rfl rfl (by rw [HB8.out]; omega) (by simp only [maxLen]; omega) (Below.size (w := w) (B := w.heap.size) (by first | assumption | exact Below.refl _ _ | exact Below.drew (Below.refl _ _) | exact Below.trans (by assumption) (Below.mono (by assumption) (Below.size (by assumption))) | exact Below.alloc (by assumption) (Below.size (by assumption)) _)) ?_
    intro wh hownh hgrowh
    have hbh := none_below hgrowh
    refine hK.out _ _ (by first | assumption | exact Below.refl _ _ | exact Below.drew (Below.refl _ _) | exact Below.trans (by assumption) (Below.mono (by assumption) (Below.size (by assumption))) | exact Below.alloc (by assumption) (Below.size (by assumption)) _) (fun hHeldh => ?_)
    clear hK K
    (try simp only [Act.put]); (try simp only [sA]); (try simp only [sB, sC])
    refine wpAnyH_ready (rs := [6]) (by kernel_rfl) (by simp) ?_
    refine AllReadyH.cons (o := _) rfl (fun K hK => ?_) AllReadyH.nil
    refine step_make_full rfl (.tmp 10) (.tmp 10) 62 rfl w.heap.size 4 i1 _ 1 Try.underlying62 HI1.out HZ1.out HS1.out .i64 .i64 (V : Int) (V : Int) V rfl rfl rfl rfl (by rw [HB1.out]; omega) (by simp only [maxLen]; omega) (Below.size (w := w) (B := w.heap.size) (by first | assumption | exact Below.refl _ _ | exact Below.drew (Below.refl _ _) | exact Below.trans (by assumption) (Below.mono (by assumption) (Below.size (by assumption))) | exact Below.alloc (by assumption) (Below.size (by assumption)) _)) ?_
    intro wu hownu hgrowu
    have hbu := none_below hgrowu
    refine hK.out _ _ (by first | assumption | exact Below.refl _ _ | exact Below.drew (Below.refl _ _) | exact Below.trans (by assumption) (Below.mono (by assumption) (Below.size (by assumption))) | exact Below.alloc (by assumption) (Below.size (by assumption)) _) (fun hHeldu => ?_)
    clear hK K
    (try simp only [Act.put]); (try simp only [sA]); (try simp only [sB, sC])
    refine tk 7 ?_
    refine wpAnyH_ready (rs := [8]) (by kernel_rfl) (by simp) ?_
    refine AllReadyH.cons (o := _) rfl (fun K hK => ?_) AllReadyH.nil
    (try simp only [gA, gB, gC])
    go_simp
    refine hK.out _ _ (by first | assumption | exact Below.refl _ _ | exact Below.drew (Below.refl _ _) | exact Below.trans (by assumption) (Below.mono (by assumption) (Below.size (by assumption))) | exact Below.alloc (by assumption) (Below.size (by assumption)) _) (fun hHeldb => ?_)
    clear hK K
    (try simp only [Act.put]); (try simp only [sA]); (try simp only [sB, sC])
    refine tk 9 ?_
    refine wpAnyH_done (by kernel_rfl) ?_ _
    refine NoPanic.normal ?_
    refine ⟨rfl, _, _, _, _, _, rfl, ?_⟩
    have la : w.heap.size < wr.heap.size := (hownr.lt _ rfl).2
    have lb : wr.heap.size < wh.heap.size := (hownh.lt _ rfl).2
    have lc : wh.heap.size < wu.heap.size := (hownu.lt _ rfl).2
    have e0 : w.drew.heap.size = w.heap.size := rfl
    exact ⟨own_i8 (own_below (own_below hownh hbu) ((Below.refl _ _).alloc (Nat.le_refl _) _)), own_i32 (own_below (own_below (own_below hownr hbh) hbu) ((Below.refl _ _).alloc (Nat.le_refl _) _)), own_bool (own_below hownu ((Below.refl _ _).alloc (Nat.le_refl _) _)), heap_new _ _, by omega, by omega, by omega, by omega, by omega, by omega, by assumption⟩
   refine AllReadyH.cons (o := _) rfl (fun K hK => ?_) AllReadyH.nil
   refine step_make_full rfl (.tmp 10) (.tmp 10) 62 rfl w.heap.size 4 i1 _ 1 Try.underlying62 HI1.out HZ1.out HS1.out .i64 .i64 (V : Int) (V : Int) V rfl rfl rfl rfl (by rw [HB1.out]; omega) (by simp only [maxLen]; omega) (Below.size (w := w) (B := w.heap.size) (by first | assumption | exact Below.refl _ _ | exact Below.drew (Below.refl _ _) | exact Below.trans (by assumption) (Below.mono (by assumption) (Below.size (by assumption))) | exact Below.alloc (by assumption) (Below.size (by assumption)) _)) ?_
   intro wu hownu hgrowu
   have hbu := none_below hgrowu
   refine hK.out _ _ (by first | assumption | exact Below.refl _ _ | exact Below.drew (Below.refl _ _) | exact Below.trans (by assumption) (Below.mono (by assumption) (Below.size (by assumption))) | exact Below.alloc (by assumption) (Below.size (by assumption)) _) (fun hHeldu => ?_)
   clear hK K
   (try simp only [Act.put]); (try simp only [sA]); (try simp only [sB, sC])
   refine wpAnyH_ready (rs := [2]) (by kernel_rfl) (by simp) ?_
   refine AllReadyH.cons (o := _) rfl (fun K hK => ?_) AllReadyH.nil
   refine step_make_full rfl (.tmp 6) (.tmp 6) 66 rfl w.heap.size 84 i8 _ 1 Try.underlying66 HI8.out HZ8.out HS8.out .i64 .i64 (N : Int) (N : Int) N rfl rfl rfl rfl (by rw [HB8.out]; omega) (by simp only [maxLen]; omega) (Below.size (w := w) (B := w.heap.size) (by first | assumption | exact Below.refl _ _ | exact Below.drew (Below.refl _ _) | exact Below.trans (by assumption) (Below.mono (by assumption) (Below.size (by assumption))) | exact Below.alloc (by assumption) (Below.size (by assumption)) _)) ?_
   intro wh hownh hgrowh
   have hbh := none_below hgrowh
   refine hK.out _ _ (by first | assumption | exact Below.refl _ _ | exact Below.drew (Below.refl _ _) | exact Below.trans (by assumption) (Below.mono (by assumption) (Below.size (by assumption))) | exact Below.alloc (by assumption) (Below.size (by assumption)) _) (fun hHeldh => ?_)
   clear hK K
   (try simp only [Act.put]); (try simp only [sA]); (try simp only [sB, sC])
   refine tk 7 ?_
   refine wpAnyH_ready (rs := [8]) (by kernel_rfl) (by simp) ?_
   refine AllReadyH.cons (o := _) rfl (fun K hK => ?_) AllReadyH.nil
   (try simp only [gA, gB, gC])
   go_simp
   refine hK.out _ _ (by first | assumption | exact Below.refl _ _ | exact Below.drew (Below.refl _ _) | exact Below.trans (by assumption) (Below.mono (by assumption) (Below.size (by assumption))) | exact Below.alloc (by assumption) (Below.size (by assumption)) _) (fun hHeldb => ?_)
   clear hK K
   (try simp only [Act.put]); (try simp only [sA]); (try simp only [sB, sC])
   refine tk 9 ?_
   refine wpAnyH_done (by kernel_rfl) ?_ _
   refine NoPanic.normal ?_
   refine ⟨rfl, _, _, _, _, _, rfl, ?_⟩
   have la : w.heap.size < wr.heap.size := (hownr.lt _ rfl).2
   have lb : wr.heap.size < wu.heap.size := (hownu.lt _ rfl).2
   have lc : wu.heap.size < wh.heap.size := (hownh.lt _ rfl).2
   have e0 : w.drew.heap.size = w.heap.size := rfl
   exact ⟨own_i8 (own_below hownh ((Below.refl _ _).alloc (Nat.le_refl _) _)), own_i32 (own_below (own_below (own_below hownr hbu) hbh) ((Below.refl _ _).alloc (Nat.le_refl _) _)), own_bool (own_below (own_below hownu hbh) ((Below.refl _ _).alloc (Nat.le_refl _) _)), heap_new _ _, by omega, by omega, by omega, by omega, by omega, by omega, by assumption⟩
  refine AllReadyH.cons (o := _) rfl (fun K hK => ?_) AllReadyH.nil
  refine step_make_full rfl (.tmp 10) (.tmp 10) 62 rfl w.heap.size 4 i1 _ 1 Try.underlying62 HI1.out HZ1.out HS1.out .i64 .i64 (V : Int) (V : Int) V rfl rfl rfl rfl (by rw [HB1.out]; omega) (by simp only [maxLen]; omega) (Below.size (w := w) (B := w.heap.size) (by first | assumption | exact Below.refl _ _ | exact Below.drew (Below.refl _ _) | exact Below.trans (by assumption) (Below.mono (by assumption) (Below.size (by assumption))) | exact Below.alloc (by assumption) (Below.size (by assumption)) _)) ?_
  intro wu hownu hgrowu
  have hbu := none_below hgrowu
  refine hK.out _ _ (by first | assumption | exact Below.refl _ _ | exact Below.drew (Below.refl _ _) | exact Below.trans (by assumption) (Below.mono (by assumption) (Below.size (by assumption))) | exact Below.alloc (by assumption) (Below.size (by assumption)) _) (fun hHeldu => ?_)
  clear hK K
  (try simp only [Act.put]); (try simp only [sA]); (try simp only [sB, sC])
  refine wpAnyH_ready (rs := [2, 4]) (by kernel_rfl) (by simp) ?_
  refine AllReadyH.cons (o := _) rfl (fun K hK => ?_) ?_
  ·refine step_make_full rfl (.tmp 6) (.tmp 6) 66 rfl w.heap.size 84 i8 _ 1 Try.underlying66 HI8.out HZ8.out HS8.out .i64 .i64 (N : Int) (N : Int) N rfl rfl rfl rfl (by rw [HB8.out]; omega) (by simp only [maxLen]; omega) (Below.size (w := w) (B := w.heap.size) (by first | assumption | exact Below.refl _ _ | exact Below.drew (Below.refl _ _) | exact Below.trans (by assumption) (Below.mono (by assumption) (Below.size (by assumption))) | exact Below.alloc (by assumption) (Below.size (by assumption)) _)) ?_
   intro wh hownh hgrowh
   have hbh := none_below hgrowh
   refine hK.out _ _ (by first | assumption | exact Below.refl _ _ | exact Below.drew (Below.refl _ _) | exact Below.trans (by assumption) (Below.mono (by assumption) (Below.size (by assumption))) | exact Below.alloc (by assumption) (Below.size (by assumption)) _) (fun hHeldh => ?_)
   clear hK K
   (try simp only [Act.put]); (try simp only [sA]); (try simp only [sB, sC])
   refine wpAnyH_ready (rs := [4]) (by kernel_rfl) (by simp) ?_
   refine AllReadyH.cons (o := _) rfl (fun K hK => ?_) AllReadyH.nil
   refine step_make_full rfl (.tmp 8) (.tmp 8) 67 rfl w.heap.size 21 i32 _ 1 Try.underlying67 HI32.out HZ32.out HS32.out .i64 .i64 (V : Int) (V : Int) V rfl rfl rfl rfl (by rw [HB32.out]; omega) (by simp only [maxLen]; omega) (Below.size (w := w) (B := w.heap.size) (by first | assumption | exact Below.refl _ _ | exact Below.drew (Below.refl _ _) | exact Below.trans (by assumption) (Below.mono (by assumption) (Below.size (by assumption))) | exact Below.alloc (by assumption) (Below.size (by assumption)) _)) ?_
   intro wr hownr hgrowr
   have hbr := none_below hgrowr
   refine hK.out _ _ (by first | assumption | exact Below.refl _ _ | exact Below.drew (Below.refl _ _) | exact Below.trans (by assumption) (Below.mono (by assumption) (Below.size (by assumption))) | exact Below.alloc (by assumption) (Below.size (by assumption)) _) (fun hHeldr => ?_)
   clear hK K
   (try simp only [Act.put]); (try simp only [sA]); (try simp only [sB, sC])
   refine tk 7 ?_
   refine wpAnyH_ready (rs := [8]) (by kernel_rfl) (by simp) ?_
   refine AllReadyH.cons (o := _) rfl (fun K hK => ?_) AllReadyH.nil
   (try simp only [gA, gB, gC])
   go_simp
   refine hK.out _ _ (by first | assumption | exact Below.refl _ _ | exact Below.drew (Below.refl _ _) | exact Below.trans (by assumption) (Below.mono (by assumption) (Below.size (by assumption))) | exact Below.alloc (by assumption) (Below.size (by assumption)) _) (fun hHeldb => ?_)
   clear hK K
   (try simp only [Act.put]); (try simp only [sA]); (try simp only [sB, sC])
   refine tk 9 ?_
   refine wpAnyH_done (by kernel_rfl) ?_ _
   refine NoPanic.normal ?_
   refine ⟨rfl, _, _, _, _, _, rfl, ?_⟩
   have la : w.heap.size < wu.heap.size := (hownu.lt _ rfl).2
   have lb : wu.heap.size < wh.heap.size := (hownh.lt _ rfl).2
   have lc : wh.heap.size < wr.heap.size := (hownr.lt _ rfl).2
   have e0 : w.drew.heap.size = w.heap.size := rfl
   exact ⟨own_i8 (own_below (own_below hownh hbr) ((Below.refl _ _).alloc (Nat.le_refl _) _)), own_i32 (own_below hownr ((Below.refl _ _).alloc (Nat.le_refl _) _)), own_bool (own_below (own_below (own_below hownu hbh) hbr) ((Below.refl _ _).alloc (Nat.le_refl _) _)), heap_new _ _, by omega, by omega, by omega, by omega, by omega, by omega, by assumption⟩
  refine AllReadyH.cons (o := _) rfl (fun K hK => ?_) AllReadyH.nil
  refine step_make_full rfl (.tmp 8) (.tmp 8) 67 rfl w.heap.size 21 i32 _ 1 Try.underlying67 HI32.out HZ32.out HS32.out .i64 .i64 (V : Int) (V : Int) V rfl rfl rfl rfl (by rw [HB32.out]; omega) (by simp only [maxLen]; omega) (Below.size (w := w) (B := w.heap.size) (by first | assumption | exact Below.refl _ _ | exact Below.drew (Below.refl _ _) | exact Below.trans (by assumption) (Below.mono (by assumption) (Below.size (by assumption))) | exact Below.alloc (by assumption) (Below.size (by assumption)) _)) ?_
  intro wr hownr hgrowr
  have hbr := none_below hgrowr
  refine hK.out _ _ (by first | assumption | exact Below.refl _ _ | exact Below.drew (Below.refl _ _) | exact Below.trans (by assumption) (Below.mono (by assumption) (Below.size (by assumption))) | exact Below.alloc (by assumption) (Below.size (by assumption)) _) (fun hHeldr => ?_)
  clear hK K
  (try simp only [Act.put]); (try simp only [sA]); (try simp only [sB, sC])
  refine wpAnyH_ready (rs := [2]) (by kernel_rfl) (by simp) ?_
  refine AllReadyH.cons (o := _) rfl (fun K hK => ?_) AllReadyH.nil
  refine step_make_full rfl (.tmp 6) (.tmp 6) 66 rfl w.heap.size 84 i8 _ 1 Try.underlying66 HI8.out HZ8.out HS8.out .i64 .i64 (N : Int) (N : Int) N rfl rfl rfl rfl (by rw [HB8.out]; omega) (by simp only [maxLen]; omega) (Below.size (w := w) (B := w.heap.size) (by first | assumption | exact Below.refl _ _ | exact Below.drew (Below.refl _ _) | exact Below.trans (by assumption) (Below.mono (by assumption) (Below.size (by assumption))) | exact Below.alloc (by assumption) (Below.size (by assumption)) _)) ?_
  intro wh hownh hgrowh
  have hbh := none_below hgrowh
  refine hK.out _ _ (by first | assumption | exact Below.refl _ _ | exact Below.drew (Below.refl _ _) | exact Below.trans (by assumption) (Below.mono (by assumption) (Below.size (by assumption))) | exact Below.alloc (by assumption) (Below.size (by assumption)) _) (fun hHeldh => ?_)
  clear hK K
  (try simp only [Act.put]); (try simp only [sA]); (try simp only [sB, sC])
  refine tk 7 ?_
  refine wpAnyH_ready (rs := [8]) (by kernel_rfl) (by simp) ?_
  refine AllReadyH.cons (o := _) rfl (fun K hK => ?_) AllReadyH.nil
  (try simp only [gA, gB, gC])
  go_simp
  refine hK.out _ _ (by first | assumption | exact Below.refl _ _ | exact Below.drew (Below.refl _ _) | exact Below.trans (by assumption) (Below.mono (by assumption) (Below.size (by assumption))) | exact Below.alloc (by assumption) (Below.size (by assumption)) _) (fun hHeldb => ?_)
  clear hK K
  (try simp only [Act.put]); (try simp only [sA]); (try simp only [sB, sC])
  refine tk 9 ?_
  refine wpAnyH_done (by kernel_rfl) ?_ _
  refine NoPanic.normal ?_
  refine ⟨rfl, _, _, _, _, _, rfl, ?_⟩
  have la : w.heap.size < wu.heap.size := (hownu.lt _ rfl).2
  have lb : wu.heap.size < wr.heap.size := (hownr.lt _ rfl).2
  have lc : wr.heap.size < wh.heap.size := (hownh.lt _ rfl).2
  have e0 : w.drew.heap.size = w.heap.size := rfl
  exact ⟨own_i8 (own_below hownh ((Below.refl _ _).alloc (Nat.le_refl _) _)), own_i32 (own_below (own_below hownr hbh) ((Below.refl _ _).alloc (Nat.le_refl _) _)), own_bool (own_below (own_below (own_below hownu hbr) hbh) ((Below.refl _ _).alloc (Nat.le_refl _) _)), heap_new _ _, by omega, by omega, by omega, by omega, by omega, by omega, by assumption⟩
 ·intro a' w1 hmid
  obtain ⟨bb, hb, rb, ub, s12, rfl, hmd⟩ := hmid
  have HMR := hidden hmd.rows
  have HMB := hidden hmd.b
  clear hmd
  go_wp2_with fail
  go_loopw [14] (fun i' w' => ∃ (t : Nat) (sl : Site → Slot), t ≤ 2 ∧ i' = .int .i64 t ∧ Hid (NB V N t sl) ∧ Hid (Rows' w.heap.size w' bb (fields sl (St.new V)) sl) ∧ Hid (Below w.heap.size w w')) (fun i' _ => 2 - (intOf i').toNat)
  case atStart => exact ⟨0, _, Nat.zero_le _, rfl, NB.zero V N hb rb ub, HMR.out, HMB.out⟩
  case round =>
   obtain ⟨t, sl, ht, rfl, HNk, HRk, HBk⟩ := hrel
   by_cases htl : t < 2
   ·have htI : (t : Int) < 2 := by omega
    have HSZ : Hid (w.heap.size ≤ wr.heap.size) := HBk.out.size
    have HNR : Hid ((sl (.row t)).v.ownBlock = none) := by show _ = _; rw [HNk.out.later t (Nat.le_refl _)]; rfl
    have HF0 : Hid ((fields sl (St.new V))[1 + t]? = some (.slice none 0 0)) := by
     show _ = _
     have e5 := HNk.out.later t (Nat.le_refl _)
     rcases (show t = 0 ∨ t = 1 by omega) with rfl | rfl
     ·show some (sl (.row 0)).v = _; rw [e5]
     ·show some (sl (.row 1)).v = _; rw [e5]
    have e7 : IntKind.i64.wrap ((t : Int) + 1) = (t : Int) + 1 := wrapI _ (by omega) (by omega)
    go_upto_region 5 with fail
    refine wp_region_noPanic ?_
    refine wp_region_held_drew (S := (fun _ => True)) (by kernel_rfl) (by first | assumption | trivial) (fun hHeld => ?_)
    refine tk 0 ?_
    refine tk 1 ?_
    refine tk 2 ?_
    refine tk 3 ?_
    refine tk 5 ?_
    refine tk 6 ?_
    refine wpAnyH_ready (rs := [4]) (by kernel_rfl) (by simp) ?_
    refine AllReadyH.cons (o := _) rfl (fun K hK => ?_) AllReadyH.nil
    refine step_make_full rfl (.tmp 20) (.tmp 20) 69 rfl w.heap.size 86 i24 _ 1 Try.underlying69 HI24.out HZ24.out HS24.out .i64 .i64 (N : Int) (N : Int) N rfl rfl rfl rfl (by rw [HB24.out]; omega) (by simp only [maxLen]; omega) HSZ.out ?_
    intro wA hownA hgrowA
    rw [made_nil] at hownA
    have hbA : Below wr.heap.size wr wA := undrew (none_below hgrowA)
    have RA := HRk.out.grow (.row t) ⟨.slice (some ⟨wr.heap.size, 0, none⟩) N N, N, List.replicate N (.slice none 0 0)⟩ (by rw [HNR.out]; exact gbel hbA none) hownA (fun k hk => .inr (by cases hk; exact Nat.le_refl _))
    have fA := RA.soft (1 + t)
    have cA := RA.field (1 + t)
    have cA' : wA.cell? ⟨bb, 1 + t, none⟩ = some (.slice none 0 0) := by
     rw [cA]; exact HF0.out
    have RB := RA.setB (1 + t) (.slice (some ⟨wr.heap.size, 0, none⟩) N N)
    clear RA cA
    refine hK.out _ _ (by first | assumption | trivial) (fun hHeldA => ?_)
    clear hK K
    (try simp only [Act.put]); (try simp only [sA]); (try simp only [sB, sC])
    refine tk 7 ?_
    refine wpAnyH_ready (rs := [8]) (by kernel_rfl) (by simp) ?_
    refine AllReadyH.cons (o := _) rfl (fun K hK => ?_) AllReadyH.nil
    (try simp only [gA, gB, gC])
    go_simp
    refine hK.out _ _ (by first | assumption | trivial) (fun hHeldb => ?_)
    clear hK K
    (try simp only [Act.put]); (try simp only [sA]); (try simp only [sB, sC])
    refine wpAnyH_done (by kernel_rfl) ?_ _
    refine NoPanic.normal ?_
    have ef := fields_row sl (St.new V) t htl ⟨.slice (some ⟨wr.heap.size, 0, none⟩) N N, N, List.replicate N (.slice none 0 0)⟩
    dsimp only at ef
    rw [← ef] at RB
    clear ef
    have HN2 := hidden (HNk.out.next (.slice (some ⟨wr.heap.size, 0, none⟩) N N))
    have HB2 : Hid (Below w.heap.size w (wA.setCell ⟨bb, 1 + t, none⟩ (.slice (some ⟨wr.heap.size, 0, none⟩) N N))) := setTo (HBk.out.trans (hbA.mono HBk.out.size)) HRk.out.base (Nat.le_trans HBk.out.size hbA.size)
    generalize hW6 : World.setCell wA _ _ = w6
    rw [hW6] at RB HB2
    have HR2 := hidden RB
    clear hW6 RB hownA hgrowA hbA fA cA' HRk HNk
    go_wp2
    go_roundw
    case measure => simp [intOf]; omega
    case rel => exact ⟨t + 1, _, by omega, by simp, HN2.out, HR2.out, HB2.out⟩
   ·have hge : ¬ ((t : Int) < 2) := by omega
    have HX : Hid (NewP w V (.returned (.pointer (some ⟨bb, 0, none⟩))) wr) := by
     obtain rfl : t = 2 := by omega
     have h5 := HNk.out
     rw [HN.out] at h5
     exact ⟨bb, rfl, ⟨sl, HRk.out, h5.link hV⟩, HBk.out⟩
    go_wp2
    go_ret
    exact HX.out
end Go.Proofs.Ytefjicdhccfieaa
