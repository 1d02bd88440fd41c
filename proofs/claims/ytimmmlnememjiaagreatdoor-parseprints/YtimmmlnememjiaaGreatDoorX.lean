import Derived.Test.YtimmmlnememjiaaGreatDoorRows
import Derived.WalkKit
namespace Go.Proofs.YtimmmlnememjiaaGreatDoor
open Go.RowKit
theorem hI {p : Prop} (h : p) : Hid p := h
theorem lnC {α : Type} {a : α} {l : List α} : (a :: l).length = l.length + 1 := List.length_cons
theorem lnN {α : Type} : ([] : List α).length = 0 := List.length_nil
theorem lnA {α : Type} {l m : List α} : (l ++ m).length = l.length + m.length := List.length_append
end Go.Proofs.YtimmmlnememjiaaGreatDoor
