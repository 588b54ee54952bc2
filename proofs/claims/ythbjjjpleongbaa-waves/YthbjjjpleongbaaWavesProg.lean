/-
  The walk of Waves, and the program's two contracts, side by side. No condition.
-/
import Derived.Test.YthbjjjpleongbaaWavesWalk
import Derived.Test.YthbjjjpleongbaaWvProg
import Derived.Test.YthbjjjpleongbaaWvFrame
