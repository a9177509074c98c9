/- A part of the proof: Pr6a, Pr6b, Pr6c, Pr6d. -/
import Derived.Test.YtffdemplaodbcaaDoorP03
set_option linter.all false
namespace Rad
theorem okA0:allA fac 10 512=true:=by kernel_rfl
theorem okA1:allA fac 1034 512=true:=by kernel_rfl
theorem okA2:allA fac 2058 512=true:=by kernel_rfl
theorem okA3:allA fac 3082 512=true:=by kernel_rfl
theorem okA4:allA fac 4106 512=true:=by kernel_rfl
theorem okA5:allA fac 5130 512=true:=by kernel_rfl
theorem okA6:allA fac 6154 512=true:=by kernel_rfl
theorem okA7:allA fac 7178 512=true:=by kernel_rfl
end Rad
namespace Rad
theorem okA8:allA fac 8202 512=true:=by kernel_rfl
theorem okA9:allA fac 9226 512=true:=by kernel_rfl
theorem okA10:allA fac 10250 512=true:=by kernel_rfl
theorem okA11:allA fac 11274 512=true:=by kernel_rfl
theorem okA12:allA fac 12298 512=true:=by kernel_rfl
theorem okA13:allA fac 13322 512=true:=by kernel_rfl
theorem okA14:allA fac 14346 512=true:=by kernel_rfl
theorem okA15:allA fac 15370 512=true:=by kernel_rfl
end Rad
namespace Rad
theorem okA16:allA fac 16394 512=true:=by kernel_rfl
theorem okA17:allA fac 17418 512=true:=by kernel_rfl
theorem okA18:allA fac 18442 512=true:=by kernel_rfl
theorem okA19:allA fac 19466 512=true:=by kernel_rfl
theorem okA20:allA fac 20490 512=true:=by kernel_rfl
theorem okA21:allA fac 21514 512=true:=by kernel_rfl
theorem okA22:allA fac 22538 512=true:=by kernel_rfl
theorem okA23:allA fac 23562 512=true:=by kernel_rfl
end Rad
namespace Rad
theorem okA24:allA fac 24586 512=true:=by kernel_rfl
theorem okA25:allA fac 25610 512=true:=by kernel_rfl
theorem okA26:allA fac 26634 512=true:=by kernel_rfl
theorem okA27:allA fac 27658 512=true:=by kernel_rfl
theorem okA28:allA fac 28682 512=true:=by kernel_rfl
theorem okA29:allA fac 29706 512=true:=by kernel_rfl
theorem okA30:allA fac 30730 512=true:=by kernel_rfl
theorem okA31:allA fac 31754 512=true:=by kernel_rfl
end Rad
