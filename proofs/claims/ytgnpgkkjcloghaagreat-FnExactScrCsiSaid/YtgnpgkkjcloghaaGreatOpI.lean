/- Both ways in: screens and lists of ints. -/
import Derived.Test.YtgnpgkkjcloghaaGreatKm17
import Derived.Test.YtgnpgkkjcloghaaGreatOpenIntsB
