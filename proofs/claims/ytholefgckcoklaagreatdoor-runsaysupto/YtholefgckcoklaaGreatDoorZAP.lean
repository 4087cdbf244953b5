/- ZAP -/
import Derived.Test.YtholefgckcoklaaGreatDoorZAN
import Derived.Test.YtholefgckcoklaaGreatDoorZAF
