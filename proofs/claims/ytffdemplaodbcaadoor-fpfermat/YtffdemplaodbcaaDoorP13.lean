/- A part of the proof: Pr6c. -/
import Derived.Test.YtffdemplaodbcaaDoorP05
set_option linter.all false
namespace Rad
theorem okA16 : allA fac 16394 512 = true := by kernel_rfl
theorem okA17 : allA fac 17418 512 = true := by kernel_rfl
theorem okA18 : allA fac 18442 512 = true := by kernel_rfl
theorem okA19 : allA fac 19466 512 = true := by kernel_rfl
theorem okA20 : allA fac 20490 512 = true := by kernel_rfl
theorem okA21 : allA fac 21514 512 = true := by kernel_rfl
theorem okA22 : allA fac 22538 512 = true := by kernel_rfl
theorem okA23 : allA fac 23562 512 = true := by kernel_rfl
end Rad
