/-
  The walk of WaveAny, and the program's two contracts, side by side. No condition.
-/
import Derived.Test.YthbjjjpleongbaaWaveAnyWalk
import Derived.Test.YthbjjjpleongbaaWvProg
import Derived.Test.YthbjjjpleongbaaWvFrame
