/-
  The law of limits: its four cases and the card's conditions together.
-/
import Derived.Test.YtalpkdnnclghaaaDoorYa
import Derived.Test.YtalpkdnnclghaaaDoorYb
import Derived.Test.YtalpkdnnclghaaaDoorYc
import Derived.Test.YtalpkdnnclghaaaDoorYd
import Derived.Test.YtalpkdnnclghaaaDoorVb
