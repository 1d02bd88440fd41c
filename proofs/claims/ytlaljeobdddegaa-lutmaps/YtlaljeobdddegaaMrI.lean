import Derived.Test.YtlaljeobdddegaaMrH
namespace Go.Proofs.Ytlaljeobdddegaa
open Go.RowKit Mp

set_option maxRecDepth 100000 in
set_option maxHeartbeats 8000000 in
theorem clone_any (w : World) (b o lc : Nat) (l : List Int) (hr : RowAt w.heap.size w (some ⟨b, o, none⟩) 1 (l.map intC)) (hn : l.length ≤ 1000000) :
    Calls Try.prog 52 #[.slice (some ⟨b, o, none⟩) l.length lc] w fun e w' => ∃ v, e = .returned v ∧ Hid (w'.ownsRow w.heap.size 3 1 v l.length (l.map zV)) ∧ Hid (Bl w w') := by
  have hal : Bl w (w.alloc (.cells #[] 3)) := (Below.refl _ _).alloc (Nat.le_refl _) _
  have HR : Hid (RowAt (w.alloc (.cells #[] 3)).heap.size (w.alloc (.cells #[] 3)) (some ⟨b, o, none⟩) 1 (l.map intC)) := (hr.to hal).mono hal.size
  have HON : Hid ((w.alloc (.cells #[] 3)).ownsRow w.heap.size 3 1 (.slice (some ⟨w.heap.size, 0, none⟩) 0 0) 0 []) := World.ownsRow_lit w #[] 0 (Nat.le_refl _) (Nat.zero_le _) rfl
  have HAL := hidden hal
  have hm3 : w.heap.size ≤ (w.alloc (.cells #[] 3)).heap.size := hal.size
  obtain ⟨n, En⟩ := exh l.length
  have NL : ∀ w, (binOp .eql 24 (.slice (some ⟨b, o, none⟩) n lc) (.slice none 0 0)).run Try.prog w = .ok (.bool false) w := fun w => Lib.run_eql_slice_nil w 24 3 (some ⟨b, o, none⟩) n lc 0 0 Try.underlying24
  rw [← En.out]
  rw [← En.out] at hn
  clear hr hal
  have tok : True := trivial
  go_enter Try.func52, Try.ntmps52
  go_wp2_with (have _t := tok; at_builtin; (refine app_ints _ rfl (.tmp 5) (.tmp 6) rfl w.heap.size (.slice (some ⟨w.heap.size, 0, none⟩) 0 0) 0 [] rfl HON.out (some ⟨b, o, none⟩) lc l (by rw [← En.out]; rfl) HR.out (fun h => by cases h) (by rw [← En.out]; omega) hm3 ?_; intro v1 w1 hown hgrow _; have HO1 := hidden hown; have HB1 : Hid (Bl w w1) := HAL.out.trans (grow_low hgrow hm3 (fun k hk => by cases hk; exact Nat.le_refl _)); clear tok hown hgrow))
  go_wp2
  go_ret
  have h1 := HO1.out
  rw [← En.out, Nat.zero_add, List.nil_append] at h1
  exact ⟨v1, rfl, h1, HB1.out⟩
end Go.Proofs.Ytlaljeobdddegaa
