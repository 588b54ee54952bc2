/-
  The walk of WaveParts, and the program's two contracts, side by side. No condition.
-/
import Derived.Test.YthbjjjpleongbaaWavePartsWalk
import Derived.Test.YthbjjjpleongbaaWvProg
import Derived.Test.YthbjjjpleongbaaWvFrame
