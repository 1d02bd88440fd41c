import Derived.Test.YtlkhmcajedjojaaJ22
import Derived.OwnWalk
namespace Go.Proofs.Ytlkhmcajedjojaa
open Go.RowKit

set_option maxRecDepth 100000 in
set_option maxHeartbeats 8000000 in
theorem cyc30 (V : World) (N : NetD) (row regs : List Nat) (ms : List MD) (vs : List Nat) (d : NodeD) (ai ar am av : Option Addr) (ci cr cm cv nbk db : Nat) (HD : Hid (∀ (j : Nat) (v : Value), d.cells[j]? = some v → V.cell? ⟨db, j, none⟩ = some v)) (_hdb : db < V.heap.size) (hk : d.kind = 30) (hw : widthOk d.width = true) (hn0 : 0 ≤ d.num) (hrow : RowAt V.heap.size V ai 1 (row.map uN)) (hrl : row.length < big) (hr64 : ∀ x, x ∈ row → x < 18446744073709551616) (K' : Act → World → Prop) (Q0 : Exit → Act → World → Prop) (x0 x5 x6 x7 x8 x10 x13 x14 x15 x16 x17 x18 x19 x20 x21 x22 x23 x24 x25 x26 x27 x28 x30 x31 x32 x33 x34 x35 x36 x37 x38 x39 x40 x41 x42 x43 x44 x45 x46 x47 x48 x49 x50 x51 x52 x53 x54 x55 x56 x57 x58 x59 x60 x61 x62 x63 x64 x65 x66 x67 x68 x69 x70 x71 x72 x73 x74 x75 x76 x77 x78 x79 x80 x81 x82 x83 x84 x85 x86 x87 x88 x89 x90 x91 x92 x93 x94 x95 x96 x97 x98 x99 x100 x101 x102 x103 x104 x105 x106 x107 x108 x109 x110 x111 x112 x113 x114 x115 x116 x117 x118 x119 x120 x121 x122 x123 x124 x125 x126 x127 x128 x129 : Value)
    (HK : Hid (∀ (s : Value) (w' : World) (v13 v14 v15 v30 v31 v32 v33 v34 v35 v36 v37 v38 v39 v40 v41 v42 v43 v44 v45 v46 v47 v48 v49 v50 v51 v52 v53 v54 v55 v56 v57 v58 v59 v60 v61 v62 v63 v64 v65 v66 v67 v68 v69 v70 v71 v72 v73 v74 v75 v76 v77 v78 v79 v80 v81 v82 v83 v84 v85 v86 v87 v88 v89 v90 v91 v92 v93 v94 v95 v96 v97 v98 v99 v100 v101 v102 v103 v104 v105 v106 v107 v108 v109 v110 v111 v112 v113 v114 v115 v116 v117 v118 v119 v120 v121 v122 v123 v124 : Value), s = .int .u64 ((nodeVal N row regs (ms.map MD.l) vs d : Nat) : Int) → Hid (Below V.heap.size V w') → K' ⟨#[x0, .slice ai row.length ci, .slice ar regs.length cr, .slice am ms.length cm, .pointer (some ⟨nbk, 0, none⟩), x5, x6, x7, x8, .slice av vs.length cv, x10, .pointer (some ⟨db, 0, none⟩), s, v13, v14, v15, x16, x17, x18, x19, x20, x21, x22, x23, x24, x25, x26, x27, x28, .int .i64 d.kind, v30, v31, v32, v33, v34, v35, v36, v37, v38, v39, v40, v41, v42, v43, v44, v45, v46, v47, v48, v49, v50, v51, v52, v53, v54, v55, v56, v57, v58, v59, v60, v61, v62, v63, v64, v65, v66, v67, v68, v69, v70, v71, v72, v73, v74, v75, v76, v77, v78, v79, v80, v81, v82, v83, v84, v85, v86, v87, v88, v89, v90, v91, v92, v93, v94, v95, v96, v97, v98, v99, v100, v101, v102, v103, v104, v105, v106, v107, v108, v109, v110, v111, v112, v113, v114, v115, v116, v117, v118, v119, v120, v121, v122, v123, v124, x125, x126, x127, x128, x129], []⟩ w')) :
    Code.wp Try.prog ((Try.f36.body.bind (blockAt 2)).getD .skip) (Exit.then K' Q0) ⟨#[x0, .slice ai row.length ci, .slice ar regs.length cr, .slice am ms.length cm, .pointer (some ⟨nbk, 0, none⟩), x5, x6, x7, x8, .slice av vs.length cv, x10, .pointer (some ⟨db, 0, none⟩), .int .u64 0, x13, x14, x15, x16, x17, x18, x19, x20, x21, x22, x23, x24, x25, x26, x27, x28, .int .i64 d.kind, x30, x31, x32, x33, x34, x35, x36, x37, x38, x39, x40, x41, x42, x43, x44, x45, x46, x47, x48, x49, x50, x51, x52, x53, x54, x55, x56, x57, x58, x59, x60, x61, x62, x63, x64, x65, x66, x67, x68, x69, x70, x71, x72, x73, x74, x75, x76, x77, x78, x79, x80, x81, x82, x83, x84, x85, x86, x87, x88, x89, x90, x91, x92, x93, x94, x95, x96, x97, x98, x99, x100, x101, x102, x103, x104, x105, x106, x107, x108, x109, x110, x111, x112, x113, x114, x115, x116, x117, x118, x119, x120, x121, x122, x123, x124, x125, x126, x127, x128, x129], []⟩ V := by
  have d0 : V.cell? ⟨db, 0, none⟩ = some (.int .i64 d.kind) := HD.out 0 _ rfl
  have d1 : V.cell? ⟨db, 1, none⟩ = some (.int .i64 d.width) := HD.out 1 _ rfl
  have d2 : V.cell? ⟨db, 2, none⟩ = some (.int .u64 d.num) := HD.out 2 _ rfl
  have d3 : V.cell? ⟨db, 3, none⟩ = some (.slice d.aa d.args.length d.ac) := HD.out 3 _ rfl
  clear HD
  conv => arg 2; whnf
  obtain ⟨val, HVAL⟩ : ∃ val, Hid (nodeVal N row regs (ms.map MD.l) vs d = val) := ⟨_, rfl⟩
  rw [HVAL.out] at HK
  have HVAL2 : Hid (val = if d.num < (row.length : Int) then (row[d.num.toNat]?).getD 0 % 2 ^ d.width.toNat else 0) := by
    show _ = _
    rw [← HVAL.out]; unfold nodeVal; rw [if_pos hk]
  clear HVAL
  have eL : IntKind.u64.wrap (row.length : Int) = (row.length : Int) := wrapU _ (by omega) (by simp only [big] at hrl; omega)
  have MK : Hid (∀ w, Calls Try.prog 19 #[.int .i64 d.width] w fun e w' => e = .returned (.int .u64 (maskN d.width)) ∧ w' = w) := fun w => mask_int d.width hw w
  have hw' : 1 ≤ d.width ∧ d.width ≤ 32 := by simpa [widthOk] using hw
  obtain ⟨kind, width, num, args, aa, ac⟩ := d
  simp only at *
  subst hk
  by_cases g : num < (row.length : Int)
  · obtain ⟨x, hx⟩ : ∃ x, row[num.toNat]? = some x := ⟨row[num.toNat]'(by omega), List.getElem?_eq_getElem (by omega)⟩
    obtain ⟨b, o, rfl, hb, c0⟩ := rowU hrow hx
    have hx64 := hr64 x (List.mem_of_getElem? hx)
    have e1 : bits BinOp.and IntKind.u64 (x : Int) (maskN width) = (val : Int) := by
      have := and_mask x width.toNat hx64 (by omega)
      rw [show ((width.toNat : Nat) : Int) = width by omega] at this
      rw [this, HVAL2.out, if_pos g, hx]; rfl
    clear HVAL2 hx hrow
    go_wp2_with fail
    go_quiet ((go_at_call 19; exact Calls.quiet_of_same (MK.out _)))
    go_wp2
    exact HK.out _ _ _ _ _ _ _ _ _ _ _ _ _ _ _ _ _ _ _ _ _ _ _ _ _ _ _ _ _ _ _ _ _ _ _ _ _ _ _ _ _ _ _ _ _ _ _ _ _ _ _ _ _ _ _ _ _ _ _ _ _ _ _ _ _ _ _ _ _ _ _ _ _ _ _ _ _ _ _ _ _ _ _ _ _ _ _ _ _ _ _ _ _ _ _ _ _ _ _ _ rfl (Below.drewN (Below.refl _ _) _)
  · have hd : decide (num < (row.length : Int)) = false := by simp [g]
    have e : val = 0 := by rw [HVAL2.out, if_neg g]
    subst e
    clear HVAL2 hrow
    go_wp2
    exact HK.out _ _ _ _ _ _ _ _ _ _ _ _ _ _ _ _ _ _ _ _ _ _ _ _ _ _ _ _ _ _ _ _ _ _ _ _ _ _ _ _ _ _ _ _ _ _ _ _ _ _ _ _ _ _ _ _ _ _ _ _ _ _ _ _ _ _ _ _ _ _ _ _ _ _ _ _ _ _ _ _ _ _ _ _ _ _ _ _ _ _ _ _ _ _ _ _ _ _ _ _ rfl (Below.refl _ _)

set_option maxRecDepth 100000 in
set_option maxHeartbeats 8000000 in
theorem cyc31 (V : World) (N : NetD) (row regs : List Nat) (ms : List MD) (vs : List Nat) (d : NodeD) (ai ar am av : Option Addr) (ci cr cm cv nbk db : Nat) (HD : Hid (∀ (j : Nat) (v : Value), d.cells[j]? = some v → V.cell? ⟨db, j, none⟩ = some v)) (_hdb : db < V.heap.size) (hk : d.kind = 31) (hn0 : 0 ≤ d.num) (hn1 : d.num < (regs.length : Int)) (hreg : RowAt V.heap.size V ar 1 (regs.map uN)) (K' : Act → World → Prop) (Q0 : Exit → Act → World → Prop) (x0 x5 x6 x7 x8 x10 x13 x14 x15 x16 x17 x18 x19 x20 x21 x22 x23 x24 x25 x26 x27 x28 x30 x31 x32 x33 x34 x35 x36 x37 x38 x39 x40 x41 x42 x43 x44 x45 x46 x47 x48 x49 x50 x51 x52 x53 x54 x55 x56 x57 x58 x59 x60 x61 x62 x63 x64 x65 x66 x67 x68 x69 x70 x71 x72 x73 x74 x75 x76 x77 x78 x79 x80 x81 x82 x83 x84 x85 x86 x87 x88 x89 x90 x91 x92 x93 x94 x95 x96 x97 x98 x99 x100 x101 x102 x103 x104 x105 x106 x107 x108 x109 x110 x111 x112 x113 x114 x115 x116 x117 x118 x119 x120 x121 x122 x123 x124 x125 x126 x127 x128 x129 : Value)
    (HK : Hid (∀ (s : Value) (w' : World) (v13 v14 v15 v30 v31 v32 v33 v34 v35 v36 v37 v38 v39 v40 v41 v42 v43 v44 v45 v46 v47 v48 v49 v50 v51 v52 v53 v54 v55 v56 v57 v58 v59 v60 v61 v62 v63 v64 v65 v66 v67 v68 v69 v70 v71 v72 v73 v74 v75 v76 v77 v78 v79 v80 v81 v82 v83 v84 v85 v86 v87 v88 v89 v90 v91 v92 v93 v94 v95 v96 v97 v98 v99 v100 v101 v102 v103 v104 v105 v106 v107 v108 v109 v110 v111 v112 v113 v114 v115 v116 v117 v118 v119 v120 v121 v122 v123 v124 : Value), s = .int .u64 ((nodeVal N row regs (ms.map MD.l) vs d : Nat) : Int) → Hid (Below V.heap.size V w') → K' ⟨#[x0, .slice ai row.length ci, .slice ar regs.length cr, .slice am ms.length cm, .pointer (some ⟨nbk, 0, none⟩), x5, x6, x7, x8, .slice av vs.length cv, x10, .pointer (some ⟨db, 0, none⟩), s, v13, v14, v15, x16, x17, x18, x19, x20, x21, x22, x23, x24, x25, x26, x27, x28, .int .i64 d.kind, v30, v31, v32, v33, v34, v35, v36, v37, v38, v39, v40, v41, v42, v43, v44, v45, v46, v47, v48, v49, v50, v51, v52, v53, v54, v55, v56, v57, v58, v59, v60, v61, v62, v63, v64, v65, v66, v67, v68, v69, v70, v71, v72, v73, v74, v75, v76, v77, v78, v79, v80, v81, v82, v83, v84, v85, v86, v87, v88, v89, v90, v91, v92, v93, v94, v95, v96, v97, v98, v99, v100, v101, v102, v103, v104, v105, v106, v107, v108, v109, v110, v111, v112, v113, v114, v115, v116, v117, v118, v119, v120, v121, v122, v123, v124, x125, x126, x127, x128, x129], []⟩ w')) :
    Code.wp Try.prog ((Try.f36.body.bind (blockAt 2)).getD .skip) (Exit.then K' Q0) ⟨#[x0, .slice ai row.length ci, .slice ar regs.length cr, .slice am ms.length cm, .pointer (some ⟨nbk, 0, none⟩), x5, x6, x7, x8, .slice av vs.length cv, x10, .pointer (some ⟨db, 0, none⟩), .int .u64 0, x13, x14, x15, x16, x17, x18, x19, x20, x21, x22, x23, x24, x25, x26, x27, x28, .int .i64 d.kind, x30, x31, x32, x33, x34, x35, x36, x37, x38, x39, x40, x41, x42, x43, x44, x45, x46, x47, x48, x49, x50, x51, x52, x53, x54, x55, x56, x57, x58, x59, x60, x61, x62, x63, x64, x65, x66, x67, x68, x69, x70, x71, x72, x73, x74, x75, x76, x77, x78, x79, x80, x81, x82, x83, x84, x85, x86, x87, x88, x89, x90, x91, x92, x93, x94, x95, x96, x97, x98, x99, x100, x101, x102, x103, x104, x105, x106, x107, x108, x109, x110, x111, x112, x113, x114, x115, x116, x117, x118, x119, x120, x121, x122, x123, x124, x125, x126, x127, x128, x129], []⟩ V := by
  have d0 : V.cell? ⟨db, 0, none⟩ = some (.int .i64 d.kind) := HD.out 0 _ rfl
  have d1 : V.cell? ⟨db, 1, none⟩ = some (.int .i64 d.width) := HD.out 1 _ rfl
  have d2 : V.cell? ⟨db, 2, none⟩ = some (.int .u64 d.num) := HD.out 2 _ rfl
  have d3 : V.cell? ⟨db, 3, none⟩ = some (.slice d.aa d.args.length d.ac) := HD.out 3 _ rfl
  clear HD
  conv => arg 2; whnf
  obtain ⟨x, hx⟩ : ∃ x, regs[d.num.toNat]? = some x := ⟨regs[d.num.toNat]'(by omega), List.getElem?_eq_getElem (by omega)⟩
  have e : nodeVal N row regs (ms.map MD.l) vs d = x := by unfold nodeVal; rw [if_neg (by omega), if_pos hk, hx]; rfl
  rw [e] at HK
  clear e
  obtain ⟨b, o, rfl, hb, c0⟩ := rowU hreg hx
  obtain ⟨kind, width, num, args, aa, ac⟩ := d
  simp only at *
  subst hk
  clear hx hreg
  go_wp2
  exact HK.out _ _ _ _ _ _ _ _ _ _ _ _ _ _ _ _ _ _ _ _ _ _ _ _ _ _ _ _ _ _ _ _ _ _ _ _ _ _ _ _ _ _ _ _ _ _ _ _ _ _ _ _ _ _ _ _ _ _ _ _ _ _ _ _ _ _ _ _ _ _ _ _ _ _ _ _ _ _ _ _ _ _ _ _ _ _ _ _ _ _ _ _ _ _ _ _ _ _ _ _ rfl (Below.refl _ _)

set_option maxRecDepth 100000 in
set_option maxHeartbeats 8000000 in
theorem cyc32 (V : World) (N : NetD) (row regs : List Nat) (ms : List MD) (vs : List Nat) (d : NodeD) (ai ar am av : Option Addr) (ci cr cm cv nbk db : Nat) (HD : Hid (∀ (j : Nat) (v : Value), d.cells[j]? = some v → V.cell? ⟨db, j, none⟩ = some v)) (_hdb : db < V.heap.size) (hk : d.kind = 32) (hn0 : 0 ≤ d.num) (hn1 : d.num < (ms.length : Int)) (hmem : MemsAt V.heap.size V am ms) (harg : RowAt V.heap.size V d.aa 1 (d.args.map intC)) (hal : d.args.length = 1) (hin : 0 ≤ at0 d.args 0 ∧ at0 d.args 0 < (vs.length : Int)) (hvs : RowAt V.heap.size V av 1 (vs.map uN)) (K' : Act → World → Prop) (Q0 : Exit → Act → World → Prop) (x0 x5 x6 x7 x8 x10 x13 x14 x15 x16 x17 x18 x19 x20 x21 x22 x23 x24 x25 x26 x27 x28 x30 x31 x32 x33 x34 x35 x36 x37 x38 x39 x40 x41 x42 x43 x44 x45 x46 x47 x48 x49 x50 x51 x52 x53 x54 x55 x56 x57 x58 x59 x60 x61 x62 x63 x64 x65 x66 x67 x68 x69 x70 x71 x72 x73 x74 x75 x76 x77 x78 x79 x80 x81 x82 x83 x84 x85 x86 x87 x88 x89 x90 x91 x92 x93 x94 x95 x96 x97 x98 x99 x100 x101 x102 x103 x104 x105 x106 x107 x108 x109 x110 x111 x112 x113 x114 x115 x116 x117 x118 x119 x120 x121 x122 x123 x124 x125 x126 x127 x128 x129 : Value)
    (HK : Hid (∀ (s : Value) (w' : World) (v13 v14 v15 v30 v31 v32 v33 v34 v35 v36 v37 v38 v39 v40 v41 v42 v43 v44 v45 v46 v47 v48 v49 v50 v51 v52 v53 v54 v55 v56 v57 v58 v59 v60 v61 v62 v63 v64 v65 v66 v67 v68 v69 v70 v71 v72 v73 v74 v75 v76 v77 v78 v79 v80 v81 v82 v83 v84 v85 v86 v87 v88 v89 v90 v91 v92 v93 v94 v95 v96 v97 v98 v99 v100 v101 v102 v103 v104 v105 v106 v107 v108 v109 v110 v111 v112 v113 v114 v115 v116 v117 v118 v119 v120 v121 v122 v123 v124 : Value), s = .int .u64 ((nodeVal N row regs (ms.map MD.l) vs d : Nat) : Int) → Hid (Below V.heap.size V w') → K' ⟨#[x0, .slice ai row.length ci, .slice ar regs.length cr, .slice am ms.length cm, .pointer (some ⟨nbk, 0, none⟩), x5, x6, x7, x8, .slice av vs.length cv, x10, .pointer (some ⟨db, 0, none⟩), s, v13, v14, v15, x16, x17, x18, x19, x20, x21, x22, x23, x24, x25, x26, x27, x28, .int .i64 d.kind, v30, v31, v32, v33, v34, v35, v36, v37, v38, v39, v40, v41, v42, v43, v44, v45, v46, v47, v48, v49, v50, v51, v52, v53, v54, v55, v56, v57, v58, v59, v60, v61, v62, v63, v64, v65, v66, v67, v68, v69, v70, v71, v72, v73, v74, v75, v76, v77, v78, v79, v80, v81, v82, v83, v84, v85, v86, v87, v88, v89, v90, v91, v92, v93, v94, v95, v96, v97, v98, v99, v100, v101, v102, v103, v104, v105, v106, v107, v108, v109, v110, v111, v112, v113, v114, v115, v116, v117, v118, v119, v120, v121, v122, v123, v124, x125, x126, x127, x128, x129], []⟩ w')) :
    Code.wp Try.prog ((Try.f36.body.bind (blockAt 2)).getD .skip) (Exit.then K' Q0) ⟨#[x0, .slice ai row.length ci, .slice ar regs.length cr, .slice am ms.length cm, .pointer (some ⟨nbk, 0, none⟩), x5, x6, x7, x8, .slice av vs.length cv, x10, .pointer (some ⟨db, 0, none⟩), .int .u64 0, x13, x14, x15, x16, x17, x18, x19, x20, x21, x22, x23, x24, x25, x26, x27, x28, .int .i64 d.kind, x30, x31, x32, x33, x34, x35, x36, x37, x38, x39, x40, x41, x42, x43, x44, x45, x46, x47, x48, x49, x50, x51, x52, x53, x54, x55, x56, x57, x58, x59, x60, x61, x62, x63, x64, x65, x66, x67, x68, x69, x70, x71, x72, x73, x74, x75, x76, x77, x78, x79, x80, x81, x82, x83, x84, x85, x86, x87, x88, x89, x90, x91, x92, x93, x94, x95, x96, x97, x98, x99, x100, x101, x102, x103, x104, x105, x106, x107, x108, x109, x110, x111, x112, x113, x114, x115, x116, x117, x118, x119, x120, x121, x122, x123, x124, x125, x126, x127, x128, x129], []⟩ V := by
  have d0 : V.cell? ⟨db, 0, none⟩ = some (.int .i64 d.kind) := HD.out 0 _ rfl
  have d1 : V.cell? ⟨db, 1, none⟩ = some (.int .i64 d.width) := HD.out 1 _ rfl
  have d2 : V.cell? ⟨db, 2, none⟩ = some (.int .u64 d.num) := HD.out 2 _ rfl
  have d3 : V.cell? ⟨db, 3, none⟩ = some (.slice d.aa d.args.length d.ac) := HD.out 3 _ rfl
  clear HD
  conv => arg 2; whnf
  obtain ⟨m, hm⟩ : ∃ m, ms[d.num.toNat]? = some m := ⟨ms[d.num.toNat]'(by omega), List.getElem?_eq_getElem (by omega)⟩
  obtain ⟨mb, mo, em, hmb, hmc⟩ := hmem.1.el hm
  have cm0 : V.cell? ⟨mb, mo + d.num.toNat, none⟩ = some (.slice m.a m.l.length m.c) := by have := hmc 0 _ rfl; simpa using this
  have hmr := hmem.2 m (List.mem_of_getElem? hm)
  obtain ⟨ab, ao, ea, hab, hac⟩ := harg.int (i := 0) (by omega)
  have ca : V.cell? ⟨ab, ao, none⟩ = some (.int .i64 (at0 d.args 0)) := hac 0 (by omega)
  obtain ⟨y, hy⟩ : ∃ y, vs[(at0 d.args 0).toNat]? = some y := ⟨vs[(at0 d.args 0).toNat]'(by omega), List.getElem?_eq_getElem (by omega)⟩
  obtain ⟨vb, vo, rfl, hvb, cy⟩ := rowU hvs hy
  have ev : vAt vs (at0 d.args 0) = y := by unfold vAt; rw [hy]; rfl
  obtain ⟨val, HVAL⟩ : ∃ val, Hid (nodeVal N row regs (ms.map MD.l) vs d = val) := ⟨_, rfl⟩
  rw [HVAL.out] at HK
  have HVAL2 : Hid (val = (m.l[y]?).getD 0) := by
    show _ = _
    rw [← HVAL.out]; unfold nodeVal; rw [if_neg (by omega), if_neg (by omega), if_pos hk, ev, List.getElem?_map, hm]; rfl
  have eL : IntKind.u64.wrap (m.l.length : Int) = (m.l.length : Int) := wrapU _ (by omega) (by have := hmr.2; simp only [big] at this; omega)
  subst em
  rw [ea] at d3
  clear HVAL ea hmc hac hmem harg hvs hm hy ev
  generalize at0 d.args 0 = a at *
  have hl0 : (0 : Int) < (d.args.length : Int) := by omega
  obtain ⟨kind, width, num, args, aa, ac⟩ := d
  obtain ⟨m1, m2, m3⟩ := m
  simp only at *
  subst hk
  obtain ⟨ha0, ha1⟩ := hin
  by_cases g : (y : Int) < (m3.length : Int)
  · obtain ⟨z, hz⟩ : ∃ z, m3[y]? = some z := ⟨m3[y]'(by omega), List.getElem?_eq_getElem (by omega)⟩
    obtain ⟨zb, zo, rfl, hzb, cz⟩ := rowU hmr.1 hz
    have e : val = z := by rw [HVAL2.out, hz]; rfl
    subst e
    clear HVAL2 hmr hz
    go_wp2_with fail
    go_quiet (fail)
    go_wp2_with fail
    go_quiet (fail)
    go_wp2
    exact HK.out _ _ _ _ _ _ _ _ _ _ _ _ _ _ _ _ _ _ _ _ _ _ _ _ _ _ _ _ _ _ _ _ _ _ _ _ _ _ _ _ _ _ _ _ _ _ _ _ _ _ _ _ _ _ _ _ _ _ _ _ _ _ _ _ _ _ _ _ _ _ _ _ _ _ _ _ _ _ _ _ _ _ _ _ _ _ _ _ _ _ _ _ _ _ _ _ _ _ _ _ rfl (Below.drewN (Below.drewN (Below.refl _ _) _) _)
  · have hd : decide ((y : Int) < (m3.length : Int)) = false := by simp [g]
    have e : val = 0 := by rw [HVAL2.out, List.getElem?_eq_none (by omega)]; rfl
    subst e
    clear HVAL2 hmr
    go_wp2_with fail
    go_quiet (fail)
    go_wp2
    exact HK.out _ _ _ _ _ _ _ _ _ _ _ _ _ _ _ _ _ _ _ _ _ _ _ _ _ _ _ _ _ _ _ _ _ _ _ _ _ _ _ _ _ _ _ _ _ _ _ _ _ _ _ _ _ _ _ _ _ _ _ _ _ _ _ _ _ _ _ _ _ _ _ _ _ _ _ _ _ _ _ _ _ _ _ _ _ _ _ _ _ _ _ _ _ _ _ _ _ _ _ _ rfl (Below.drewN (Below.refl _ _) _)

end Go.Proofs.Ytlkhmcajedjojaa

namespace Go.Proofs.Ytlkhmcajedjojaa
open Go.RowKit

theorem ownRow {α : Type} {g : α → Value} {w : World} {C : Nat} {e : TypeId} {v : Value} {n : Nat} {xs : List α} (h : w.ownsRow C e 1 v n (xs.map g)) :
    n = xs.length ∧ ∃ aw cw, v = .slice aw n cw ∧ RowAt w.heap.size w aw 1 (xs.map fun x => [g x]) := by
  have hl : n = xs.length := by have := h.1; simp at this; omega
  refine ⟨hl, ?_⟩
  rcases h.2 with ⟨h0, h1⟩ | ⟨gg, cap, cur, hv, h1⟩
  · refine ⟨none, 0, by rw [h0, h1], fun he => ?_⟩
    exfalso; apply he; have : xs.length = 0 := by omega
    rw [List.length_eq_zero_iff.1 this]; rfl
  · refine ⟨some ⟨gg, 0, none⟩, cap, hv, fun _ => ⟨gg, 0, rfl, ?_, ?_⟩⟩
    · exact (h.lt gg (by rw [hv]; rfl)).2
    · intro i cs hi j x hj
      have hc := h.cells (g := gg) (by rw [hv]; rfl) i
      rw [List.getElem?_map] at hi
      cases hx : xs[i]? with
      | none => rw [hx] at hi; cases hi
      | some y =>
        rw [hx] at hi
        have e : [g y] = cs := by simpa using hi
        subst e
        cases j with
        | succ j => simp at hj
        | zero =>
          have ex : g y = x := by simpa using hj
          subst ex
          have := hc (g y) (by rw [List.getElem?_map, hx]; rfl)
          rw [add0] at this
          simpa using this
theorem grown_plain {V wr w5 : World} (h : Below V.heap.size V wr) {o : Obj} {e : TypeId} {size n : Nat} {v : Value} {xs : List Value} (HO : wr.ownsRow V.heap.size e size v n xs) (hg : (wr.alloc o).grownBy w5 v.ownBlock) : Below V.heap.size V w5 :=
  (h.alloc h.size o).grown hg (Nat.le_trans h.size (by simp)) (fun k hk => (HO.lt k hk).1)
/-- two rows that are not one -/
def Sep (a b : Value) : Prop := a.ownBlock = none ∨ b.ownBlock = none ∨ a.ownBlock ≠ b.ownBlock
theorem Sep.other {a b : Value} (h : Sep a b) : b.ownBlock = none ∨ b.ownBlock ≠ a.ownBlock := by
  rcases h with h | h | h
  · rw [h]; cases hb : b.ownBlock with
    | none => exact .inl rfl
    | some x => exact .inr (by simp)
  · exact .inl h
  · exact .inr (Ne.symm h)
theorem Sep.symm {a b : Value} (h : Sep a b) : Sep b a := by
  rcases h with h | h | h
  · exact .inr (.inl h)
  · exact .inl h
  · exact .inr (.inr (Ne.symm h))
theorem Sep.new {w : World} {C : Nat} {e : TypeId} {n : Nat} {xs : List Value} {a b : Value} (h : Sep a b) (hb : w.ownsRow C e 1 b n xs) {g H m cap : Nat} (hg : a.ownBlock = some g ∨ g = H) (hH : w.heap.size ≤ H) : Sep (.slice (some ⟨g, 0, none⟩) m cap) b := by
  cases hbb : b.ownBlock with
  | none => exact .inr (.inl hbb)
  | some x =>
    refine .inr (.inr ?_)
    rw [hbb]
    show some g ≠ some x
    rcases hg with hg | hg
    · rcases h with h | h | h
      · rw [hg] at h; cases h
      · rw [hbb] at h; cases h
      · rw [hg, hbb] at h; exact h
    · have := (hb.lt x hbb).2
      intro e; cases e; omega
theorem info_u640 : (Try.prog.info? 33).map (fun i => (i.zero, i.size, i.bytes)) = some (some (.int .u64 0), 1, 8) := by kernel_rfl
theorem info_u64 : ∃ i, Try.prog.info? 33 = some i ∧ i.zero = some (.int .u64 0) ∧ i.size = 1 ∧ i.bytes = 8 := by
  have h := info_u640
  cases hi : Try.prog.info? 33 with
  | none => rw [hi] at h; cases h
  | some i => rw [hi] at h; simp at h; exact ⟨i, rfl, h.1, h.2.1, h.2.2⟩

end Go.Proofs.Ytlkhmcajedjojaa
