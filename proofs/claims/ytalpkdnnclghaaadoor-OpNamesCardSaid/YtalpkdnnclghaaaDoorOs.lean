/-
  OpNames' walk, OpOwn's walk, and the condition on the tables together.
-/
import Derived.Test.YtalpkdnnclghaaaDoorOr
import Derived.Test.YtalpkdnnclghaaaDoorV
