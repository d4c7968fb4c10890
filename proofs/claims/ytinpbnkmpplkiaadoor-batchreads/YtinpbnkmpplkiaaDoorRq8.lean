/- raddlelaw06.lives: the chapter's example holds -/
import Derived.Test.YtinpbnkmpplkiaaDoorRq7
import Derived.Test.YtinpbnkmpplkiaaDoorReqEq
namespace Go.Proofs.YtinpbnkmpplkiaaDoor
open Go.RowKit
open Sha Tal
theorem sign_in (seed : ByteArray) (n k : Nat) (hk : k < n) (body : ByteArray) : (signOf (keysOf seed n) (k : Int) body).2 = 0 := by
  unfold signOf
  have h0 : keysOf seed n ≠ [] := fun h => by have := keysOf_length seed n; rw [h] at this; simp at this; omega
  rw [if_neg h0, keysOf_length, if_neg (by omega)]
end Go.Proofs.YtinpbnkmpplkiaaDoor
