/-
  The walk of WaveForms, and the program's two contracts, side by side. No condition.
-/
import Derived.Test.YthbjjjpleongbaaWaveFormsWalk
import Derived.Test.YthbjjjpleongbaaWvProg
import Derived.Test.YthbjjjpleongbaaWvFrame
