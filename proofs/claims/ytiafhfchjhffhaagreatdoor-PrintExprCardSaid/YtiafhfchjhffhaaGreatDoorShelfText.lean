/- paclaim: ShelfText -/
import Derived.Test.YtiafhfchjhffhaaGreatDoorShelfAll

