/-
  OpOwn's walk, the document's Takes, and the condition on the tables together.
-/
import Derived.Test.YtalpkdnnclghaaaDoorOp
import Derived.Test.YtalpkdnnclghaaaDoorRb
import Derived.Test.YtalpkdnnclghaaaDoorSb
import Derived.Test.YtalpkdnnclghaaaDoorV
