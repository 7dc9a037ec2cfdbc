/-
  Layer 2: the walk of MacLong, and the table's fact.
-/
import Derived.Test.YtdpfhlopcempmaaDoorMacH
import Derived.Test.YtdpfhlopcempmaaDoorShaL
