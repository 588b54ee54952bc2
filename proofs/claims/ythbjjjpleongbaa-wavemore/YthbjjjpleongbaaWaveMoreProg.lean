/-
  The walk of WaveMore, and the program's two contracts, side by side. No condition.
-/
import Derived.Test.YthbjjjpleongbaaWaveMoreWalk
import Derived.Test.YthbjjjpleongbaaWvProg
import Derived.Test.YthbjjjpleongbaaWvFrame
