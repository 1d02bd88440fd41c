import Derived.Test.YtlkhmcajedjojaaJ16
namespace Go.Proofs.Ytlkhmcajedjojaa
open Go.RowKit

/-- what stands in Num -/
def numOf (N : NetD) (d : NodeD) : Bool :=
  if d.kind = 1 then decide (d.num ≤ maskN d.width)
  else if d.kind = 5 then decide (d.width ≤ at0 (wsOf N d.args) 0 ∧ d.num ≤ at0 (wsOf N d.args) 0 - d.width)
  else if d.kind = 30 then decide (d.num < (N.ins.length : Int) ∧ at0 N.ins d.num.toNat = d.width)
  else if d.kind = 31 then decide (d.num < (N.regs.length : Int) ∧ ((N.regs[d.num.toNat]?.map RegD.width).getD 0) = d.width)
  else if d.kind = 32 then decide (d.num < (N.mems.length : Int) ∧ ((N.mems[d.num.toNat]?.map MemD.width).getD 0) = d.width)
  else decide (d.num = 0)

set_option maxRecDepth 100000 in
set_option maxHeartbeats 8000000 in
theorem nf_num (B : Nat) (w : World) (cb : Nat) (S : NetS) (N : NetD) (_h : CkAt B w cb S N) (hB : B ≤ w.heap.size) (nb no : Nat) (d : NodeD) (hd : NdAt B w N nb no d) (hk : d.kind = 1) (hw : widthOk d.width = true) :
    Calls Try.prog 26 #[ckV cb, .pointer (some ⟨nb, no, none⟩)] w fun e w' => e = .returned (.bool (decide (d.num ≤ maskN d.width))) ∧ Below w.heap.size w w' := by
  have c0 : w.cell? ⟨nb, no, none⟩ = some (.int .i64 d.kind) := hd.cells 0 _ rfl
  have c1 := hd.cells 1 _ rfl
  have c2 := hd.cells 2 _ rfl
  have c3 := hd.cells 3 _ rfl
  have hnb : nb < w.heap.size := Nat.lt_of_lt_of_le hd.lt hB
  have n0 := hd.n0
  have n1 := hd.n1
  have MK : Hid (∀ w, Calls Try.prog 28 #[.int .i64 d.width] w fun e w' => e = .returned (.int .u64 (maskN d.width)) ∧ w' = w) := fun w => pmask_int d.width hw w
  clear hd
  unfold ckV
  obtain ⟨kind, width, num, args, aa, ac⟩ := d
  simp only at *
  subst hk
  generalize maskN width = mk at *
  go_enter Try.func26, Try.ntmps26
  go_wp2_with fail
  go_quiet ((go_at_call 28; exact Calls.quiet_of_same (MK.out _)))
  go_wp2
  go_ret
  exact ⟨rfl, (Below.drewN ((Below.refl _ _).alloc (Nat.le_refl _) _) _)⟩

set_option maxRecDepth 100000 in
set_option maxHeartbeats 8000000 in
theorem nf_slice (B : Nat) (w : World) (cb : Nat) (S : NetS) (N : NetD) (h : CkAt B w cb S N) (hB : B ≤ w.heap.size) (nb no : Nat) (d : NodeD) (hd : NdAt B w N nb no d) (hk : d.kind = 5) (hw : widthOk d.width = true) (hl : d.args.length = 1) (hin0 : 0 ≤ at0 d.args 0 ∧ at0 d.args 0 < (N.nodes.length : Int)) (hx : 1 ≤ at0 (wsOf N d.args) 0 ∧ at0 (wsOf N d.args) 0 ≤ 32) :
    Calls Try.prog 26 #[ckV cb, .pointer (some ⟨nb, no, none⟩)] w fun e w' => e = .returned (.bool (decide (d.width ≤ at0 (wsOf N d.args) 0 ∧ d.num ≤ at0 (wsOf N d.args) 0 - d.width))) ∧ Below w.heap.size w w' := by
  have c0 : w.cell? ⟨nb, no, none⟩ = some (.int .i64 d.kind) := hd.cells 0 _ rfl
  have c1 := hd.cells 1 _ rfl
  have c2 := hd.cells 2 _ rfl
  have c3 := hd.cells 3 _ rfl
  have hnb : nb < w.heap.size := Nat.lt_of_lt_of_le hd.lt hB
  have n0 := hd.n0
  have n1 := hd.n1
  obtain ⟨ab, ao, ea, hab, hac⟩ := hd.args.int (i := 0) (by omega)
  have ca : w.cell? ⟨ab, ao, none⟩ = some (.int .i64 (at0 d.args 0)) := hac 0 (by omega)
  have hin := hin0
  have q1 : w.cell? ⟨cb, 1, none⟩ = some (.slice S.a1 N.nodes.length S.c1) := h.cells 1
  have hcb : cb < w.heap.size := Nat.lt_of_lt_of_le h.lt hB
  obtain ⟨y, hy⟩ : ∃ y, N.nodes[(at0 d.args 0).toNat]? = some y := ⟨N.nodes[(at0 d.args 0).toNat]'(by omega), List.getElem?_eq_getElem (by omega)⟩
  obtain ⟨b, o, eb, hlt, hc⟩ := h.net.n.el hy
  have cy := hc 1 _ rfl
  have hb : b < w.heap.size := Nat.lt_of_lt_of_le hlt hB
  have hab' : ab < w.heap.size := Nat.lt_of_lt_of_le hab hB
  rw [eb] at q1
  rw [ea] at c3
  have e : at0 (wsOf N d.args) 0 = y.width := by rw [at0_ws (by omega)]; unfold widthAt; rw [hy]; rfl
  rw [e] at hx ⊢
  have hl0 : (0 : Int) < (d.args.length : Int) := by omega
  generalize at0 d.args 0 = a at *
  generalize y.width = al at *
  clear hc eb ea hac hy h hd e hin0
  unfold ckV
  obtain ⟨kind, width, num, args, aa, ac⟩ := d
  simp only at *
  subst hk
  obtain ⟨h0, h1⟩ := hin
  have hw' : 1 ≤ width ∧ width ≤ 32 := by simpa [widthOk] using hw
  by_cases g : width ≤ al
  · have e1 : IntKind.i64.wrap (al - width) = al - width := wrapI _ (by omega) (by omega)
    have e2 : IntKind.u64.wrap (al - width) = al - width := wrapU _ (by omega) (by omega)
    go_enter Try.func26, Try.ntmps26
    go_wp2_with fail
    go_quiet (fail)
    go_wp2_with fail
    go_quiet (fail)
    go_wp2
    go_ret
    exact ⟨ret_bool (by rw [Bool.eq_iff_iff]; simp [g]), (Below.drewN (Below.drewN ((Below.refl _ _).alloc (Nat.le_refl _) _) _) _)⟩
  · have hg : decide (width ≤ al) = false := by simp [g]
    go_enter Try.func26, Try.ntmps26
    go_wp2_with fail
    go_quiet (fail)
    go_wp2_with fail
    go_quiet (fail)
    go_wp2
    go_ret
    exact ⟨ret_bool (by symm; rw [decide_eq_false_iff_not]; intro hh; omega), (Below.drewN (Below.drewN ((Below.refl _ _).alloc (Nat.le_refl _) _) _) _)⟩

set_option maxRecDepth 100000 in
set_option maxHeartbeats 8000000 in
theorem nf_in (B : Nat) (w : World) (cb : Nat) (S : NetS) (N : NetD) (h : CkAt B w cb S N) (hB : B ≤ w.heap.size) (nb no : Nat) (d : NodeD) (hd : NdAt B w N nb no d) (hk : d.kind = 30) :
    Calls Try.prog 26 #[ckV cb, .pointer (some ⟨nb, no, none⟩)] w fun e w' => e = .returned (.bool (decide (d.num < (N.ins.length : Int) ∧ at0 N.ins d.num.toNat = d.width))) ∧ Below w.heap.size w w' := by
  have c0 : w.cell? ⟨nb, no, none⟩ = some (.int .i64 d.kind) := hd.cells 0 _ rfl
  have c1 := hd.cells 1 _ rfl
  have c2 := hd.cells 2 _ rfl
  have c3 := hd.cells 3 _ rfl
  have hnb : nb < w.heap.size := Nat.lt_of_lt_of_le hd.lt hB
  have n0 := hd.n0
  have n1 := hd.n1
  have q : w.cell? ⟨cb, 0, none⟩ = some (.slice S.a0 N.ins.length S.c0) := h.cells 0
  have hcb : cb < w.heap.size := Nat.lt_of_lt_of_le h.lt hB
  have ll : N.ins.length < big := h.net.li
  simp only [big] at ll
  have el : Hid (d.num < (N.ins.length : Int) → ∃ b o, S.a0 = some ⟨b, o, none⟩ ∧ b < w.heap.size ∧ w.cell? ⟨b, o + d.num.toNat, none⟩ = some (.int .i64 (at0 N.ins d.num.toNat))) := by
    intro g
    have hlt : d.num.toNat < N.ins.length := by omega
    obtain ⟨b, o, e, hb, hc⟩ := h.net.i.int hlt
    exact ⟨b, o, e, Nat.lt_of_lt_of_le hb hB, hc _ hlt⟩
  have eL : IntKind.u64.wrap (N.ins.length : Int) = (N.ins.length : Int) := wrapU _ (by omega) (by omega)
  clear h hd
  unfold ckV
  obtain ⟨kind, width, num, args, aa, ac⟩ := d
  simp only at *
  subst hk
  generalize at0 N.ins num.toNat = xw at *
  by_cases g : num < (N.ins.length : Int)
  · obtain ⟨b, o, eb, hb, cx⟩ := el.out g
    rw [eb] at q
    clear el eb
    go_enter Try.func26, Try.ntmps26
    go_wp2_with fail
    go_quiet (fail)
    go_wp2
    go_ret
    exact ⟨ret_bool (by rw [Bool.eq_iff_iff]; simp [g]), (Below.drewN ((Below.refl _ _).alloc (Nat.le_refl _) _) _)⟩
  · have hg : decide (num < (N.ins.length : Int)) = false := by simp [g]
    clear el
    go_enter Try.func26, Try.ntmps26
    go_wp2_with fail
    go_quiet (fail)
    go_wp2
    go_ret
    exact ⟨ret_bool (by symm; rw [decide_eq_false_iff_not]; intro hh; omega), (Below.drewN ((Below.refl _ _).alloc (Nat.le_refl _) _) _)⟩

set_option maxRecDepth 100000 in
set_option maxHeartbeats 8000000 in
theorem nf_reg (B : Nat) (w : World) (cb : Nat) (S : NetS) (N : NetD) (h : CkAt B w cb S N) (hB : B ≤ w.heap.size) (nb no : Nat) (d : NodeD) (hd : NdAt B w N nb no d) (hk : d.kind = 31) :
    Calls Try.prog 26 #[ckV cb, .pointer (some ⟨nb, no, none⟩)] w fun e w' => e = .returned (.bool (decide (d.num < (N.regs.length : Int) ∧ (N.regs[d.num.toNat]?.map RegD.width).getD 0 = d.width))) ∧ Below w.heap.size w w' := by
  have c0 : w.cell? ⟨nb, no, none⟩ = some (.int .i64 d.kind) := hd.cells 0 _ rfl
  have c1 := hd.cells 1 _ rfl
  have c2 := hd.cells 2 _ rfl
  have c3 := hd.cells 3 _ rfl
  have hnb : nb < w.heap.size := Nat.lt_of_lt_of_le hd.lt hB
  have n0 := hd.n0
  have n1 := hd.n1
  have q : w.cell? ⟨cb, 2, none⟩ = some (.slice S.a2 N.regs.length S.c2) := h.cells 2
  have hcb : cb < w.heap.size := Nat.lt_of_lt_of_le h.lt hB
  have ll : N.regs.length < big := h.net.lr
  simp only [big] at ll
  have el : Hid (d.num < (N.regs.length : Int) → ∃ b o, S.a2 = some ⟨b, o, none⟩ ∧ b < w.heap.size ∧ w.cell? ⟨b, o + d.num.toNat * 3, none⟩ = some (.int .i64 ((N.regs[d.num.toNat]?.map RegD.width).getD 0))) := by
    intro g
    have hlt : d.num.toNat < N.regs.length := by omega
    obtain ⟨y, hy⟩ : ∃ y, N.regs[d.num.toNat]? = some y := ⟨N.regs[d.num.toNat], List.getElem?_eq_getElem hlt⟩
    obtain ⟨b, o, e, hb, hc⟩ := h.net.r.el hy
    refine ⟨b, o, e, Nat.lt_of_lt_of_le hb hB, ?_⟩
    rw [hy]
    exact hc 0 _ rfl
  have eL : IntKind.u64.wrap (N.regs.length : Int) = (N.regs.length : Int) := wrapU _ (by omega) (by omega)
  clear h hd
  unfold ckV
  obtain ⟨kind, width, num, args, aa, ac⟩ := d
  simp only at *
  subst hk
  generalize (N.regs[num.toNat]?.map RegD.width).getD 0 = xw at *
  by_cases g : num < (N.regs.length : Int)
  · obtain ⟨b, o, eb, hb, cx⟩ := el.out g
    rw [eb] at q
    clear el eb
    go_enter Try.func26, Try.ntmps26
    go_wp2_with fail
    go_quiet (fail)
    go_wp2
    go_ret
    exact ⟨ret_bool (by rw [Bool.eq_iff_iff]; simp [g]), (Below.drewN ((Below.refl _ _).alloc (Nat.le_refl _) _) _)⟩
  · have hg : decide (num < (N.regs.length : Int)) = false := by simp [g]
    clear el
    go_enter Try.func26, Try.ntmps26
    go_wp2_with fail
    go_quiet (fail)
    go_wp2
    go_ret
    exact ⟨ret_bool (by symm; rw [decide_eq_false_iff_not]; intro hh; omega), (Below.drewN ((Below.refl _ _).alloc (Nat.le_refl _) _) _)⟩

set_option maxRecDepth 100000 in
set_option maxHeartbeats 8000000 in
theorem nf_mem (B : Nat) (w : World) (cb : Nat) (S : NetS) (N : NetD) (h : CkAt B w cb S N) (hB : B ≤ w.heap.size) (nb no : Nat) (d : NodeD) (hd : NdAt B w N nb no d) (hk : d.kind = 32) :
    Calls Try.prog 26 #[ckV cb, .pointer (some ⟨nb, no, none⟩)] w fun e w' => e = .returned (.bool (decide (d.num < (N.mems.length : Int) ∧ (N.mems[d.num.toNat]?.map MemD.width).getD 0 = d.width))) ∧ Below w.heap.size w w' := by
  have c0 : w.cell? ⟨nb, no, none⟩ = some (.int .i64 d.kind) := hd.cells 0 _ rfl
  have c1 := hd.cells 1 _ rfl
  have c2 := hd.cells 2 _ rfl
  have c3 := hd.cells 3 _ rfl
  have hnb : nb < w.heap.size := Nat.lt_of_lt_of_le hd.lt hB
  have n0 := hd.n0
  have n1 := hd.n1
  have q : w.cell? ⟨cb, 3, none⟩ = some (.slice S.a3 N.mems.length S.c3) := h.cells 3
  have hcb : cb < w.heap.size := Nat.lt_of_lt_of_le h.lt hB
  have ll : N.mems.length < big := h.net.lm
  simp only [big] at ll
  have el : Hid (d.num < (N.mems.length : Int) → ∃ b o, S.a3 = some ⟨b, o, none⟩ ∧ b < w.heap.size ∧ w.cell? ⟨b, o + d.num.toNat * 2, none⟩ = some (.int .i64 ((N.mems[d.num.toNat]?.map MemD.width).getD 0))) := by
    intro g
    have hlt : d.num.toNat < N.mems.length := by omega
    obtain ⟨y, hy⟩ : ∃ y, N.mems[d.num.toNat]? = some y := ⟨N.mems[d.num.toNat], List.getElem?_eq_getElem hlt⟩
    obtain ⟨b, o, e, hb, hc⟩ := h.net.m.el hy
    refine ⟨b, o, e, Nat.lt_of_lt_of_le hb hB, ?_⟩
    rw [hy]
    exact hc 0 _ rfl
  have eL : IntKind.u64.wrap (N.mems.length : Int) = (N.mems.length : Int) := wrapU _ (by omega) (by omega)
  clear h hd
  unfold ckV
  obtain ⟨kind, width, num, args, aa, ac⟩ := d
  simp only at *
  subst hk
  generalize (N.mems[num.toNat]?.map MemD.width).getD 0 = xw at *
  by_cases g : num < (N.mems.length : Int)
  · obtain ⟨b, o, eb, hb, cx⟩ := el.out g
    rw [eb] at q
    clear el eb
    go_enter Try.func26, Try.ntmps26
    go_wp2_with fail
    go_quiet (fail)
    go_wp2
    go_ret
    exact ⟨ret_bool (by rw [Bool.eq_iff_iff]; simp [g]), (Below.drewN ((Below.refl _ _).alloc (Nat.le_refl _) _) _)⟩
  · have hg : decide (num < (N.mems.length : Int)) = false := by simp [g]
    clear el
    go_enter Try.func26, Try.ntmps26
    go_wp2_with fail
    go_quiet (fail)
    go_wp2
    go_ret
    exact ⟨ret_bool (by symm; rw [decide_eq_false_iff_not]; intro hh; omega), (Below.drewN ((Below.refl _ _).alloc (Nat.le_refl _) _) _)⟩

set_option maxRecDepth 100000 in
set_option maxHeartbeats 8000000 in
theorem nf_other (B : Nat) (w : World) (cb : Nat) (S : NetS) (N : NetD) (_h : CkAt B w cb S N) (hB : B ≤ w.heap.size) (nb no : Nat) (d : NodeD) (hd : NdAt B w N nb no d) (hk : d.kind ≠ 1 ∧ d.kind ≠ 5 ∧ d.kind ≠ 30 ∧ d.kind ≠ 31 ∧ d.kind ≠ 32) :
    Calls Try.prog 26 #[ckV cb, .pointer (some ⟨nb, no, none⟩)] w fun e w' => e = .returned (.bool (decide (d.num = 0))) ∧ Below w.heap.size w w' := by
  have c0 : w.cell? ⟨nb, no, none⟩ = some (.int .i64 d.kind) := hd.cells 0 _ rfl
  have c1 := hd.cells 1 _ rfl
  have c2 := hd.cells 2 _ rfl
  have c3 := hd.cells 3 _ rfl
  have hnb : nb < w.heap.size := Nat.lt_of_lt_of_le hd.lt hB
  have n0 := hd.n0
  have n1 := hd.n1
  clear hd
  unfold ckV
  obtain ⟨kind, width, num, args, aa, ac⟩ := d
  simp only at *
  obtain ⟨g1, g5, g30, g31, g32⟩ := hk
  go_enter Try.func26, Try.ntmps26
  go_wp2_with fail
  go_ret
  exact ⟨ret_bool (by first | rfl | (rw [Bool.eq_iff_iff]; simp)), ((Below.refl _ _).alloc (Nat.le_refl _) _)⟩

end Go.Proofs.Ytlkhmcajedjojaa
