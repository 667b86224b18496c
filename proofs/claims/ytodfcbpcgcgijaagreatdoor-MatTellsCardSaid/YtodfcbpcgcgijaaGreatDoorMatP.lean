import Derived.Test.YtodfcbpcgcgijaaGreatDoorJU
import Derived.Test.YtodfcbpcgcgijaaGreatDoorMatPb
import Derived.Test.YtodfcbpcgcgijaaGreatDoorMatPc
import Derived.Test.YtodfcbpcgcgijaaGreatDoorMatPd
import Derived.Test.YtodfcbpcgcgijaaGreatDoorMatPe
import Derived.Test.YtodfcbpcgcgijaaGreatDoorJV
/- What the calls of package mat answer: all eight. -/
namespace Go.Proofs.YtodfcbpcgcgijaaGreatDoor
set_option maxRecDepth 100000
open Go.RowKit

theorem matC : MatC where
  same := matSame
  back := matBack
  apply := fun a b c d e f g h i ha hb hc hd he hf hg hh hi x y z hx hy hz w => matApply a b c d e f g h i ha hb hc hd he hf hg hh hi x y z hx hy hz w
  mul := matMul
  about := matAbout
  ortho := matOrtho
  off := matOff
  heading := fun a b c d e f g h i ha hd w hS => matHead a d ha hd b c e f g h i w hS

end Go.Proofs.YtodfcbpcgcgijaaGreatDoor
