/- The laws' helpers over byte slices together: a copy, a comparison, a marking and a check of the marks. -/
import Derived.Test.YtabbdppmnngjgaaBytesC
import Derived.Test.YtabbdppmnngjgaaBytesM
