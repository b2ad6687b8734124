/-
  The cards' common text, and the facts on counts, together.
-/
import Derived.Test.YtmbnaejoiglckaaDoorWe
import Derived.Test.YtmbnaejoiglckaaDoorMd
