import Derived.Test.YtlaljeobdddegaaMqI
import Derived.Laws.IdiomCopy
namespace Go.Proofs.Ytlaljeobdddegaa
open Go.RowKit Mp

theorem Blk.eight {w : World} {g : Nat} {t : TypeId} {z0 z1 z2 z3 z4 z5 z6 z7 v0 v1 v2 v3 v4 v5 v6 v7 : Value} (h : Blk w g t #[z0, z1, z2, z3, z4, z5, z6, z7]) : Blk ((((((((w.setCell ⟨g, 0, none⟩ v0).setCell ⟨g, 1, none⟩ v1).setCell ⟨g, 2, none⟩ v2).setCell ⟨g, 3, none⟩ v3).setCell ⟨g, 4, none⟩ v4).setCell ⟨g, 5, none⟩ v5).setCell ⟨g, 6, none⟩ v6).setCell ⟨g, 7, none⟩ v7) g t #[v0, v1, v2, v3, v4, v5, v6, v7] := by
  have h0 : Blk (w.setCell ⟨g, 0, none⟩ v0) g t #[v0, z1, z2, z3, z4, z5, z6, z7] := h.set 0 v0
  have h1 : Blk ((w.setCell ⟨g, 0, none⟩ v0).setCell ⟨g, 1, none⟩ v1) g t #[v0, v1, z2, z3, z4, z5, z6, z7] := h0.set 1 v1
  have h2 : Blk (((w.setCell ⟨g, 0, none⟩ v0).setCell ⟨g, 1, none⟩ v1).setCell ⟨g, 2, none⟩ v2) g t #[v0, v1, v2, z3, z4, z5, z6, z7] := h1.set 2 v2
  have h3 : Blk ((((w.setCell ⟨g, 0, none⟩ v0).setCell ⟨g, 1, none⟩ v1).setCell ⟨g, 2, none⟩ v2).setCell ⟨g, 3, none⟩ v3) g t #[v0, v1, v2, v3, z4, z5, z6, z7] := h2.set 3 v3
  have h4 : Blk (((((w.setCell ⟨g, 0, none⟩ v0).setCell ⟨g, 1, none⟩ v1).setCell ⟨g, 2, none⟩ v2).setCell ⟨g, 3, none⟩ v3).setCell ⟨g, 4, none⟩ v4) g t #[v0, v1, v2, v3, v4, z5, z6, z7] := h3.set 4 v4
  have h5 : Blk ((((((w.setCell ⟨g, 0, none⟩ v0).setCell ⟨g, 1, none⟩ v1).setCell ⟨g, 2, none⟩ v2).setCell ⟨g, 3, none⟩ v3).setCell ⟨g, 4, none⟩ v4).setCell ⟨g, 5, none⟩ v5) g t #[v0, v1, v2, v3, v4, v5, z6, z7] := h4.set 5 v5
  have h6 : Blk (((((((w.setCell ⟨g, 0, none⟩ v0).setCell ⟨g, 1, none⟩ v1).setCell ⟨g, 2, none⟩ v2).setCell ⟨g, 3, none⟩ v3).setCell ⟨g, 4, none⟩ v4).setCell ⟨g, 5, none⟩ v5).setCell ⟨g, 6, none⟩ v6) g t #[v0, v1, v2, v3, v4, v5, v6, z7] := h5.set 6 v6
  have h7 : Blk ((((((((w.setCell ⟨g, 0, none⟩ v0).setCell ⟨g, 1, none⟩ v1).setCell ⟨g, 2, none⟩ v2).setCell ⟨g, 3, none⟩ v3).setCell ⟨g, 4, none⟩ v4).setCell ⟨g, 5, none⟩ v5).setCell ⟨g, 6, none⟩ v6).setCell ⟨g, 7, none⟩ v7) g t #[v0, v1, v2, v3, v4, v5, v6, v7] := h6.set 7 v7
  exact h7
theorem But.eight (w : World) (g : Nat) (v0 v1 v2 v3 v4 v5 v6 v7 : Value) : But g w ((((((((w.setCell ⟨g, 0, none⟩ v0).setCell ⟨g, 1, none⟩ v1).setCell ⟨g, 2, none⟩ v2).setCell ⟨g, 3, none⟩ v3).setCell ⟨g, 4, none⟩ v4).setCell ⟨g, 5, none⟩ v5).setCell ⟨g, 6, none⟩ v6).setCell ⟨g, 7, none⟩ v7) := (But.set g 0 w v0).trans ((But.set g 1 _ v1).trans ((But.set g 2 _ v2).trans ((But.set g 3 _ v3).trans ((But.set g 4 _ v4).trans ((But.set g 5 _ v5).trans ((But.set g 6 _ v6).trans (But.set g 7 _ v7)))))))
theorem ints_u : Try.prog.underlying 24 = some (.slice 3) := by kernel_rfl
theorem ints_s : (Try.prog.info? 3).map (·.size) = some 1 := by kernel_rfl
def dstV (g p : Nat) : Value := .slice (some ⟨g, if p = 3 then 0 else p + 1, none⟩) (3 - p) (3 - p)
def srcV (g n p : Nat) : Value := .slice (some ⟨g, p, none⟩) (n - p) (4 - p)
/-- the numbers from p on, one place further -/
def shN (l : List Nat) (p i : Nat) : Nat := if i ≤ p then l.getD i 0 else if i ≤ l.length then l.getD (i - 1) 0 else 0
def shA (l : List Nat) (p M D T : Nat) : Array Value := #[.int .i64 (shN l p 0 : Nat), .int .i64 (shN l p 1 : Nat), .int .i64 (shN l p 2 : Nat), .int .i64 (shN l p 3 : Nat), .int .i64 (l.length : Nat), .int .u64 (M : Nat), .int .i64 (D : Nat), .int .u16 (T : Nat)]
theorem addL (g o j : Nat) : (⟨g, o, none⟩ : Addr).add j = ⟨g, o + j, none⟩ := by unfold Addr.add; split <;> simp_all
theorem copy_step (wx : World) (g p M D T : Nat) (l : List Nat) (hl : l.length ≤ 3) (hp : p ≤ l.length) (ty : TypeId) (hb : Blk wx g 114 (bxA l M D T)) :
    ∃ wy, (Builtin.copy_ #[24, 24] ty #[dstV g p, srcV g l.length p]).run Try.prog wx = .ok (goInt (l.length - p : Nat)) wy ∧ But g wx wy ∧ Blk wy g 114 (shA l p M D T) := by
  match l, p, hl, hp, hb with
  | [], 0, _, _, hb =>
    have hr := run_copy_cells (P := Try.prog) wx 24 24 ty 3 g 1 3 3 ⟨g, 0, none⟩ 0 4 [] ints_u ints_s rfl (fun j v hv => by
      simp at hv) (fun j hj => by simp at hj) (fun j hj => by simp at hj) (fun v hv => by simp at hv)
    exact ⟨_, hr, But.refl _ _, hb⟩
  | [a], 0, _, _, hb =>
    have hr := run_copy_cells (P := Try.prog) wx 24 24 ty 3 g 1 3 3 ⟨g, 0, none⟩ 1 4 [.int .i64 (a : Nat)] ints_u ints_s rfl (fun j v hv => by
      have hj : j < 1 := (List.getElem?_eq_some_iff.1 hv).1
      have : j = 0 := by omega
      rw [addL]
      subst this
      obtain rfl := Option.some.inj hv
      exact hb.cell (i := 0) rfl) (fun j hj => by
      have : j = 0 := by have h : j < 1 := hj; omega
      subst this
      exact Option.isSome_iff_exists.2 ⟨_, hb.cell (i := 1) rfl⟩) (fun j _ => hb.frozen _) (fun v hv => by
      simp only [List.mem_cons, List.not_mem_nil, or_false] at hv
      subst hv; rfl)
    have s0 : Blk (wx.setCell ⟨g, 1, none⟩ (.int .i64 (a : Nat))) g 114 #[.int .i64 (a : Nat), .int .i64 (a : Nat), .int .i64 ((0 : Nat) : Int), .int .i64 ((0 : Nat) : Int), .int .i64 ((1 : Nat) : Int), .int .u64 (M : Nat), .int .i64 (D : Nat), .int .u16 (T : Nat)] := hb.set 1 _
    exact ⟨_, hr, (But.set g 1 _ _), s0⟩
  | [a], 1, _, _, hb =>
    have hr := run_copy_cells (P := Try.prog) wx 24 24 ty 3 g 2 2 2 ⟨g, 1, none⟩ 0 3 [] ints_u ints_s rfl (fun j v hv => by
      simp at hv) (fun j hj => by simp at hj) (fun j hj => by simp at hj) (fun v hv => by simp at hv)
    exact ⟨_, hr, But.refl _ _, hb⟩
  | [a, b], 0, _, _, hb =>
    have hr := run_copy_cells (P := Try.prog) wx 24 24 ty 3 g 1 3 3 ⟨g, 0, none⟩ 2 4 [.int .i64 (a : Nat), .int .i64 (b : Nat)] ints_u ints_s rfl (fun j v hv => by
      have hj : j < 2 := (List.getElem?_eq_some_iff.1 hv).1
      have : j = 0 ∨ j = 1 := by omega
      rw [addL]
      rcases this with rfl | rfl
      · obtain rfl := Option.some.inj hv; exact hb.cell (i := 0) rfl
      · obtain rfl := Option.some.inj hv; exact hb.cell (i := 1) rfl) (fun j hj => by
      have : j = 0 ∨ j = 1 := by have h : j < 2 := hj; omega
      rcases this with rfl | rfl
      · exact Option.isSome_iff_exists.2 ⟨_, hb.cell (i := 1) rfl⟩
      · exact Option.isSome_iff_exists.2 ⟨_, hb.cell (i := 2) rfl⟩) (fun j _ => hb.frozen _) (fun v hv => by
      simp only [List.mem_cons, List.not_mem_nil, or_false] at hv
      rcases hv with rfl | rfl <;> rfl)
    have s0 : Blk (wx.setCell ⟨g, 1, none⟩ (.int .i64 (a : Nat))) g 114 #[.int .i64 (a : Nat), .int .i64 (a : Nat), .int .i64 ((0 : Nat) : Int), .int .i64 ((0 : Nat) : Int), .int .i64 ((2 : Nat) : Int), .int .u64 (M : Nat), .int .i64 (D : Nat), .int .u16 (T : Nat)] := hb.set 1 _
    have s1 : Blk ((wx.setCell ⟨g, 1, none⟩ (.int .i64 (a : Nat))).setCell ⟨g, 2, none⟩ (.int .i64 (b : Nat))) g 114 #[.int .i64 (a : Nat), .int .i64 (a : Nat), .int .i64 (b : Nat), .int .i64 ((0 : Nat) : Int), .int .i64 ((2 : Nat) : Int), .int .u64 (M : Nat), .int .i64 (D : Nat), .int .u16 (T : Nat)] := s0.set 2 _
    exact ⟨_, hr, (But.set g 1 _ _).trans ((But.set g 2 _ _)), s1⟩
  | [a, b], 1, _, _, hb =>
    have hr := run_copy_cells (P := Try.prog) wx 24 24 ty 3 g 2 2 2 ⟨g, 1, none⟩ 1 3 [.int .i64 (b : Nat)] ints_u ints_s rfl (fun j v hv => by
      have hj : j < 1 := (List.getElem?_eq_some_iff.1 hv).1
      have : j = 0 := by omega
      rw [addL]
      subst this
      obtain rfl := Option.some.inj hv
      exact hb.cell (i := 1) rfl) (fun j hj => by
      have : j = 0 := by have h : j < 1 := hj; omega
      subst this
      exact Option.isSome_iff_exists.2 ⟨_, hb.cell (i := 2) rfl⟩) (fun j _ => hb.frozen _) (fun v hv => by
      simp only [List.mem_cons, List.not_mem_nil, or_false] at hv
      subst hv; rfl)
    have s0 : Blk (wx.setCell ⟨g, 2, none⟩ (.int .i64 (b : Nat))) g 114 #[.int .i64 (a : Nat), .int .i64 (b : Nat), .int .i64 (b : Nat), .int .i64 ((0 : Nat) : Int), .int .i64 ((2 : Nat) : Int), .int .u64 (M : Nat), .int .i64 (D : Nat), .int .u16 (T : Nat)] := hb.set 2 _
    exact ⟨_, hr, (But.set g 2 _ _), s0⟩
  | [a, b], 2, _, _, hb =>
    have hr := run_copy_cells (P := Try.prog) wx 24 24 ty 3 g 3 1 1 ⟨g, 2, none⟩ 0 2 [] ints_u ints_s rfl (fun j v hv => by
      simp at hv) (fun j hj => by simp at hj) (fun j hj => by simp at hj) (fun v hv => by simp at hv)
    exact ⟨_, hr, But.refl _ _, hb⟩
  | [a, b, c], 0, _, _, hb =>
    have hr := run_copy_cells (P := Try.prog) wx 24 24 ty 3 g 1 3 3 ⟨g, 0, none⟩ 3 4 [.int .i64 (a : Nat), .int .i64 (b : Nat), .int .i64 (c : Nat)] ints_u ints_s rfl (fun j v hv => by
      have hj : j < 3 := (List.getElem?_eq_some_iff.1 hv).1
      have : j = 0 ∨ j = 1 ∨ j = 2 := by omega
      rw [addL]
      rcases this with rfl | rfl | rfl
      · obtain rfl := Option.some.inj hv; exact hb.cell (i := 0) rfl
      · obtain rfl := Option.some.inj hv; exact hb.cell (i := 1) rfl
      · obtain rfl := Option.some.inj hv; exact hb.cell (i := 2) rfl) (fun j hj => by
      have : j = 0 ∨ j = 1 ∨ j = 2 := by have h : j < 3 := hj; omega
      rcases this with rfl | rfl | rfl
      · exact Option.isSome_iff_exists.2 ⟨_, hb.cell (i := 1) rfl⟩
      · exact Option.isSome_iff_exists.2 ⟨_, hb.cell (i := 2) rfl⟩
      · exact Option.isSome_iff_exists.2 ⟨_, hb.cell (i := 3) rfl⟩) (fun j _ => hb.frozen _) (fun v hv => by
      simp only [List.mem_cons, List.not_mem_nil, or_false] at hv
      rcases hv with rfl | rfl | rfl <;> rfl)
    have s0 : Blk (wx.setCell ⟨g, 1, none⟩ (.int .i64 (a : Nat))) g 114 #[.int .i64 (a : Nat), .int .i64 (a : Nat), .int .i64 (c : Nat), .int .i64 ((0 : Nat) : Int), .int .i64 ((3 : Nat) : Int), .int .u64 (M : Nat), .int .i64 (D : Nat), .int .u16 (T : Nat)] := hb.set 1 _
    have s1 : Blk ((wx.setCell ⟨g, 1, none⟩ (.int .i64 (a : Nat))).setCell ⟨g, 2, none⟩ (.int .i64 (b : Nat))) g 114 #[.int .i64 (a : Nat), .int .i64 (a : Nat), .int .i64 (b : Nat), .int .i64 ((0 : Nat) : Int), .int .i64 ((3 : Nat) : Int), .int .u64 (M : Nat), .int .i64 (D : Nat), .int .u16 (T : Nat)] := s0.set 2 _
    have s2 : Blk (((wx.setCell ⟨g, 1, none⟩ (.int .i64 (a : Nat))).setCell ⟨g, 2, none⟩ (.int .i64 (b : Nat))).setCell ⟨g, 3, none⟩ (.int .i64 (c : Nat))) g 114 #[.int .i64 (a : Nat), .int .i64 (a : Nat), .int .i64 (b : Nat), .int .i64 (c : Nat), .int .i64 ((3 : Nat) : Int), .int .u64 (M : Nat), .int .i64 (D : Nat), .int .u16 (T : Nat)] := s1.set 3 _
    exact ⟨_, hr, (But.set g 1 _ _).trans ((But.set g 2 _ _).trans ((But.set g 3 _ _))), s2⟩
  | [a, b, c], 1, _, _, hb =>
    have hr := run_copy_cells (P := Try.prog) wx 24 24 ty 3 g 2 2 2 ⟨g, 1, none⟩ 2 3 [.int .i64 (b : Nat), .int .i64 (c : Nat)] ints_u ints_s rfl (fun j v hv => by
      have hj : j < 2 := (List.getElem?_eq_some_iff.1 hv).1
      have : j = 0 ∨ j = 1 := by omega
      rw [addL]
      rcases this with rfl | rfl
      · obtain rfl := Option.some.inj hv; exact hb.cell (i := 1) rfl
      · obtain rfl := Option.some.inj hv; exact hb.cell (i := 2) rfl) (fun j hj => by
      have : j = 0 ∨ j = 1 := by have h : j < 2 := hj; omega
      rcases this with rfl | rfl
      · exact Option.isSome_iff_exists.2 ⟨_, hb.cell (i := 2) rfl⟩
      · exact Option.isSome_iff_exists.2 ⟨_, hb.cell (i := 3) rfl⟩) (fun j _ => hb.frozen _) (fun v hv => by
      simp only [List.mem_cons, List.not_mem_nil, or_false] at hv
      rcases hv with rfl | rfl <;> rfl)
    have s0 : Blk (wx.setCell ⟨g, 2, none⟩ (.int .i64 (b : Nat))) g 114 #[.int .i64 (a : Nat), .int .i64 (b : Nat), .int .i64 (b : Nat), .int .i64 ((0 : Nat) : Int), .int .i64 ((3 : Nat) : Int), .int .u64 (M : Nat), .int .i64 (D : Nat), .int .u16 (T : Nat)] := hb.set 2 _
    have s1 : Blk ((wx.setCell ⟨g, 2, none⟩ (.int .i64 (b : Nat))).setCell ⟨g, 3, none⟩ (.int .i64 (c : Nat))) g 114 #[.int .i64 (a : Nat), .int .i64 (b : Nat), .int .i64 (b : Nat), .int .i64 (c : Nat), .int .i64 ((3 : Nat) : Int), .int .u64 (M : Nat), .int .i64 (D : Nat), .int .u16 (T : Nat)] := s0.set 3 _
    exact ⟨_, hr, (But.set g 2 _ _).trans ((But.set g 3 _ _)), s1⟩
  | [a, b, c], 2, _, _, hb =>
    have hr := run_copy_cells (P := Try.prog) wx 24 24 ty 3 g 3 1 1 ⟨g, 2, none⟩ 1 2 [.int .i64 (c : Nat)] ints_u ints_s rfl (fun j v hv => by
      have hj : j < 1 := (List.getElem?_eq_some_iff.1 hv).1
      have : j = 0 := by omega
      rw [addL]
      subst this
      obtain rfl := Option.some.inj hv
      exact hb.cell (i := 2) rfl) (fun j hj => by
      have : j = 0 := by have h : j < 1 := hj; omega
      subst this
      exact Option.isSome_iff_exists.2 ⟨_, hb.cell (i := 3) rfl⟩) (fun j _ => hb.frozen _) (fun v hv => by
      simp only [List.mem_cons, List.not_mem_nil, or_false] at hv
      subst hv; rfl)
    have s0 : Blk (wx.setCell ⟨g, 3, none⟩ (.int .i64 (c : Nat))) g 114 #[.int .i64 (a : Nat), .int .i64 (b : Nat), .int .i64 (c : Nat), .int .i64 (c : Nat), .int .i64 ((3 : Nat) : Int), .int .u64 (M : Nat), .int .i64 (D : Nat), .int .u16 (T : Nat)] := hb.set 3 _
    exact ⟨_, hr, (But.set g 3 _ _), s0⟩
  | [a, b, c], 3, _, _, hb =>
    have hr := run_copy_cells (P := Try.prog) wx 24 24 ty 3 g 0 0 0 ⟨g, 3, none⟩ 0 1 [] ints_u ints_s rfl (fun j v hv => by
      simp at hv) (fun j hj => by simp at hj) (fun j hj => by simp at hj) (fun v hv => by simp at hv)
    exact ⟨_, hr, But.refl _ _, hb⟩
theorem ins_box {wy : World} {g p M D T x : Nat} {l : List Nat} (hl : l.length ≤ 3) (hp : p ≤ l.length) (hb : Blk wy g 114 (shA l p M D T)) : Blk ((wy.setCell ⟨g, p, none⟩ (.int .i64 (x : Nat))).setCell ⟨g, 4, none⟩ (.int .i64 ((l.length : Int) + 1))) g 114 (bxA (insA l p x) M D T) := by
  match l, p, hl, hp, hb with
  | [], 0, _, _, hb =>
    have s0 : Blk (wy.setCell ⟨g, 0, none⟩ (.int .i64 (x : Nat))) g 114 #[.int .i64 (x : Nat), .int .i64 ((0 : Nat) : Int), .int .i64 ((0 : Nat) : Int), .int .i64 ((0 : Nat) : Int), .int .i64 ((0 : Nat) : Int), .int .u64 (M : Nat), .int .i64 (D : Nat), .int .u16 (T : Nat)] := hb.set 0 _
    exact s0.set 4 _
  | [a], 0, _, _, hb =>
    have s0 : Blk (wy.setCell ⟨g, 0, none⟩ (.int .i64 (x : Nat))) g 114 #[.int .i64 (x : Nat), .int .i64 (a : Nat), .int .i64 ((0 : Nat) : Int), .int .i64 ((0 : Nat) : Int), .int .i64 ((1 : Nat) : Int), .int .u64 (M : Nat), .int .i64 (D : Nat), .int .u16 (T : Nat)] := hb.set 0 _
    exact s0.set 4 _
  | [a], 1, _, _, hb =>
    have s0 : Blk (wy.setCell ⟨g, 1, none⟩ (.int .i64 (x : Nat))) g 114 #[.int .i64 (a : Nat), .int .i64 (x : Nat), .int .i64 ((0 : Nat) : Int), .int .i64 ((0 : Nat) : Int), .int .i64 ((1 : Nat) : Int), .int .u64 (M : Nat), .int .i64 (D : Nat), .int .u16 (T : Nat)] := hb.set 1 _
    exact s0.set 4 _
  | [a, b], 0, _, _, hb =>
    have s0 : Blk (wy.setCell ⟨g, 0, none⟩ (.int .i64 (x : Nat))) g 114 #[.int .i64 (x : Nat), .int .i64 (a : Nat), .int .i64 (b : Nat), .int .i64 ((0 : Nat) : Int), .int .i64 ((2 : Nat) : Int), .int .u64 (M : Nat), .int .i64 (D : Nat), .int .u16 (T : Nat)] := hb.set 0 _
    exact s0.set 4 _
  | [a, b], 1, _, _, hb =>
    have s0 : Blk (wy.setCell ⟨g, 1, none⟩ (.int .i64 (x : Nat))) g 114 #[.int .i64 (a : Nat), .int .i64 (x : Nat), .int .i64 (b : Nat), .int .i64 ((0 : Nat) : Int), .int .i64 ((2 : Nat) : Int), .int .u64 (M : Nat), .int .i64 (D : Nat), .int .u16 (T : Nat)] := hb.set 1 _
    exact s0.set 4 _
  | [a, b], 2, _, _, hb =>
    have s0 : Blk (wy.setCell ⟨g, 2, none⟩ (.int .i64 (x : Nat))) g 114 #[.int .i64 (a : Nat), .int .i64 (b : Nat), .int .i64 (x : Nat), .int .i64 ((0 : Nat) : Int), .int .i64 ((2 : Nat) : Int), .int .u64 (M : Nat), .int .i64 (D : Nat), .int .u16 (T : Nat)] := hb.set 2 _
    exact s0.set 4 _
  | [a, b, c], 0, _, _, hb =>
    have s0 : Blk (wy.setCell ⟨g, 0, none⟩ (.int .i64 (x : Nat))) g 114 #[.int .i64 (x : Nat), .int .i64 (a : Nat), .int .i64 (b : Nat), .int .i64 (c : Nat), .int .i64 ((3 : Nat) : Int), .int .u64 (M : Nat), .int .i64 (D : Nat), .int .u16 (T : Nat)] := hb.set 0 _
    exact s0.set 4 _
  | [a, b, c], 1, _, _, hb =>
    have s0 : Blk (wy.setCell ⟨g, 1, none⟩ (.int .i64 (x : Nat))) g 114 #[.int .i64 (a : Nat), .int .i64 (x : Nat), .int .i64 (b : Nat), .int .i64 (c : Nat), .int .i64 ((3 : Nat) : Int), .int .u64 (M : Nat), .int .i64 (D : Nat), .int .u16 (T : Nat)] := hb.set 1 _
    exact s0.set 4 _
  | [a, b, c], 2, _, _, hb =>
    have s0 : Blk (wy.setCell ⟨g, 2, none⟩ (.int .i64 (x : Nat))) g 114 #[.int .i64 (a : Nat), .int .i64 (b : Nat), .int .i64 (x : Nat), .int .i64 (c : Nat), .int .i64 ((3 : Nat) : Int), .int .u64 (M : Nat), .int .i64 (D : Nat), .int .u16 (T : Nat)] := hb.set 2 _
    exact s0.set 4 _
  | [a, b, c], 3, _, _, hb =>
    have s0 : Blk (wy.setCell ⟨g, 3, none⟩ (.int .i64 (x : Nat))) g 114 #[.int .i64 (a : Nat), .int .i64 (b : Nat), .int .i64 (c : Nat), .int .i64 (x : Nat), .int .i64 ((3 : Nat) : Int), .int .u64 (M : Nat), .int .i64 (D : Nat), .int .u16 (T : Nat)] := hb.set 3 _
    exact s0.set 4 _
end Go.Proofs.Ytlaljeobdddegaa
