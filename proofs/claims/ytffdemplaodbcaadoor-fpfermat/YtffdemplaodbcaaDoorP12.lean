/- A part of the proof: Pr6b. -/
import Derived.Test.YtffdemplaodbcaaDoorP05
set_option linter.all false
namespace Rad
theorem okA8 : allA fac 8202 512 = true := by kernel_rfl
theorem okA9 : allA fac 9226 512 = true := by kernel_rfl
theorem okA10 : allA fac 10250 512 = true := by kernel_rfl
theorem okA11 : allA fac 11274 512 = true := by kernel_rfl
theorem okA12 : allA fac 12298 512 = true := by kernel_rfl
theorem okA13 : allA fac 13322 512 = true := by kernel_rfl
theorem okA14 : allA fac 14346 512 = true := by kernel_rfl
theorem okA15 : allA fac 15370 512 = true := by kernel_rfl
end Rad
