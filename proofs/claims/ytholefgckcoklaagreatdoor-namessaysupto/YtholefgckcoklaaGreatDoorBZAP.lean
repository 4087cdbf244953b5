/- BZAP -/
import Derived.Test.YtholefgckcoklaaGreatDoorBZAM
import Derived.Test.YtholefgckcoklaaGreatDoorBZAG
