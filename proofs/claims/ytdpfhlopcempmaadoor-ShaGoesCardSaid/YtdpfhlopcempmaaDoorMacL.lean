/-
  Layer 2: the walks of the laws, and the table's fact.
-/
import Derived.Test.YtdpfhlopcempmaaDoorMacG
import Derived.Test.YtdpfhlopcempmaaDoorShaI
import Derived.Test.YtdpfhlopcempmaaDoorShaL
