/- Opening an attribute and a slice of ints that came in as arguments. -/
import Derived.Test.YtmmdggmnjmoebaaOpenAttr
import Derived.Test.YtmmdggmnjmoebaaOpenIntsB
