/- The contracts of the library lie in one text. -/
import Derived.Test.YtbojhcfofgdoeaaDoorShelfAll
