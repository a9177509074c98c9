/- A part of the proof: Pr6a. -/
import Derived.Test.YtffdemplaodbcaaDoorP05
set_option linter.all false
namespace Rad
theorem okA0 : allA fac 10 512 = true := by kernel_rfl
theorem okA1 : allA fac 1034 512 = true := by kernel_rfl
theorem okA2 : allA fac 2058 512 = true := by kernel_rfl
theorem okA3 : allA fac 3082 512 = true := by kernel_rfl
theorem okA4 : allA fac 4106 512 = true := by kernel_rfl
theorem okA5 : allA fac 5130 512 = true := by kernel_rfl
theorem okA6 : allA fac 6154 512 = true := by kernel_rfl
theorem okA7 : allA fac 7178 512 = true := by kernel_rfl
end Rad
