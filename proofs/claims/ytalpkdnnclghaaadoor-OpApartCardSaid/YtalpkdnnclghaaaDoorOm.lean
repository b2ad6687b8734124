/-
  OpApart's walk and the condition on the tables together.
-/
import Derived.Test.YtalpkdnnclghaaaDoorOl
import Derived.Test.YtalpkdnnclghaaaDoorV
