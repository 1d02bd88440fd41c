import Derived.Test.YtjbnejjjbdalaaaDoorFbB
namespace Go.Proofs.YtjbnejjjbdalaaaDoor
open Go.RowKit

/-- the fault FBits, told by Run -/
def BadE (w : World) (e : Ending) (w' : World) : Prop := ∃ fb, e = .returned (.tuple #[.slice none 0 0, .iface 61 (.pointer (some ⟨fb, 0, none⟩))]) ∧ Blk w' fb 40 #[.int .i64 18, .int .i64 0] ∧ w.heap.size ≤ fb ∧ Below w.heap.size w w'

set_option maxRecDepth 100000 in
set_option maxHeartbeats 8000000 in
theorem run_bad (B : Nat) (w : World) (hBw : B ≤ w.heap.size) (a : Option Addr) (c : Nat) (bs : List Nat) (R : RowAt B w a 1 (bs.map byteC)) (hl : bs.length < 281474976710656) (hby : ∀ x, x ∈ bs → x < 256) (hc : bs.length ≤ c) (hg : gOk bs = false) (ta : Option Addr) (tn tc : Nat) :
    Calls Tryd.prog 7 #[.slice a bs.length c, .slice ta tn tc] w fun e w' => BadE w e w' := by
  have LD := hidden (loaded_any B w hBw a c bs R hl hby hc)
  rw [hg] at LD
  clear R hby hg
  go_enter Tryd.func7, Tryd.ntmps7
  go_wp2_with fail
  go_at_call 16
  refine LD.out.mono ?_
  rintro e w1 ⟨⟨cs, rfl, ⟨s, p1, m1, d1, p2, m2, d2, p3, m3, d3, rfl⟩, hp⟩, hb1⟩
  unfold cfA
  have HB1 := hidden hb1
  clear hp hb1 LD
  go_wp2
  have h2 : Below w.heap.size w (w1.alloc (.cells #[.int .i64 s.ins, .int .i64 s.outs, .int .i64 s.regs, .int .i64 s.rows, .int .i64 s.cols, .slice p1 m1 d1, .slice p2 m2 d2, .slice p3 m3 d3] 32)) := HB1.out.alloc HB1.out.size _
  have hs : (w1.alloc (.cells #[.int .i64 s.ins, .int .i64 s.outs, .int .i64 s.regs, .int .i64 s.rows, .int .i64 s.cols, .slice p1 m1 d1, .slice p2 m2 d2, .slice p3 m3 d3] 32)).heap.size = w1.heap.size + 1 := by simp
  refine bodyPost_ret (v := .tuple #[.slice none 0 0, .iface 61 (.pointer (some ⟨w1.heap.size + 1, 0, none⟩))]) (by simp [results, Tryd.results7, go_sem, *]) rfl ?_
  refine ⟨_, rfl, ?_, by have := HB1.out.size; omega, h2.alloc h2.size _⟩
  have h := Blk.new (w1.alloc (.cells #[.int .i64 s.ins, .int .i64 s.outs, .int .i64 s.regs, .int .i64 s.rows, .int .i64 s.cols, .slice p1 m1 d1, .slice p2 m2 d2, .slice p3 m3 d3] 32)) 40 #[.int .i64 18, .int .i64 0]
  rw [hs] at h
  exact h

end Go.Proofs.YtjbnejjjbdalaaaDoor
