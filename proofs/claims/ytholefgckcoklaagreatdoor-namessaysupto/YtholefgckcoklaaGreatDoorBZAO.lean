/- BZAO -/
import Derived.Test.YtholefgckcoklaaGreatDoorBZAN
import Derived.Test.YtholefgckcoklaaGreatDoorBZAK
