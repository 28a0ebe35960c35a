/-
  The texts FKindCounts in one.
-/
import Derived.Test.YtbdhlokbpbiijabMPIsIdempotent4

/- FKindCounts: -/

