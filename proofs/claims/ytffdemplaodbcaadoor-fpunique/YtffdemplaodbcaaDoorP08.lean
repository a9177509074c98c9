/- A part of the proof: Pr5. -/
import Derived.Test.YtffdemplaodbcaaDoorP04
import Derived.Test.YtffdemplaodbcaaDoorP05
import Derived.Test.YtffdemplaodbcaaDoorP06
import Derived.Test.YtffdemplaodbcaaDoorP07
set_option linter.all false
namespace Rad
def tabP:List (Nat×List Nat):=ta++(tb++(tc++td))
theorem go_tab:goT tabP=true:=goT_append _ _ go_ta (goT_append _ _ go_tb (goT_append _ _ go_tc go_td))
def covB (T:List (Nat×List Nat)):Nat→Bool
 |0=>true
 |k+1=>cond (covR T (Nat.add 9 (Nat.mul 512 k)) 256) (covB T k) false
theorem covB_at {T:List (Nat×List Nat)}:∀k j,covB T k=true→j<256*k→cov T (9+2*j)=true
 |0,j,_,h=>by omega
 |k+1,j,h,hj=>by
  have e:cond (covR T (9+512*k) 256) (covB T k) false=true:=h;obtain⟨h1,h2⟩:=cond_yes e rfl;rcases Nat.lt_or_ge j (256*k)with h3|h3
  ·exact covB_at k j h2 h3
  ·have h4:=covR_at 256 (j-256*k) h1 (by omega);rw[show 9+512*k+2*(j-256*k)=9+2*j by omega]at h4;exact h4
theorem cov_all:covB tabP 63=true:=by kernel_rfl
theorem cov_end:covR tabP 32265 252=true:=by kernel_rfl
theorem cov_tab (q:Nat) (hq:Prm q) (h7:7<q) (hL:q≤32768):q∈look (sig q) tabP:=by
 have hodd:q%2=1:=by
  rcases Nat.mod_two_eq_zero_or_one q with h|h
  ·rcases hq.2 2 (Nat.dvd_of_mod_eq_zero h)with h1|h1 <;> omega
  ·exact h
 rcases Nat.lt_or_ge q 32265 with h|h
 ·have h1:=covB_at 63 ((q-9) / 2) cov_all (by omega);rw[show 9+2*((q-9) / 2)=q by omega]at h1;exact cov_at h1 hq
 ·have h1:=covR_at 252 ((q-32265) / 2) cov_end (by omega);rw[show 32265+2*((q-32265) / 2)=q by omega]at h1;exact cov_at h1 hq
end Rad
