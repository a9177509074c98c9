/- A part of the proof: Pr6d. -/
import Derived.Test.YtffdemplaodbcaaDoorP05
set_option linter.all false
namespace Rad
theorem okA24 : allA fac 24586 512 = true := by kernel_rfl
theorem okA25 : allA fac 25610 512 = true := by kernel_rfl
theorem okA26 : allA fac 26634 512 = true := by kernel_rfl
theorem okA27 : allA fac 27658 512 = true := by kernel_rfl
theorem okA28 : allA fac 28682 512 = true := by kernel_rfl
theorem okA29 : allA fac 29706 512 = true := by kernel_rfl
theorem okA30 : allA fac 30730 512 = true := by kernel_rfl
theorem okA31 : allA fac 31754 512 = true := by kernel_rfl
end Rad
