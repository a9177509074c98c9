/- A part of the proof: Pr7, F3, F4, F5. -/
import Derived.Test.YtffdemplaodbcaaDoorP08
import Derived.Test.YtffdemplaodbcaaDoorP09
import Derived.Test.YtffdemplaodbcaaDoorP02
set_option linter.all false
namespace Rad
theorem okA_all (c:Nat) (h1:10≤c) (h2:c<32768) (h3:c%2=0):okA fac c=true:=by
 obtain⟨k,rfl⟩:∃k,c=10+2*k:=⟨(c-10) / 2,by omega⟩;by_cases g0:k<512
 ·have h:=allA_at 512 (k-0) okA0 (by omega);rw[show 10+2*(k-0)=10+2*k by omega]at h;exact h
 by_cases g1:k<1024
 ·have h:=allA_at 512 (k-512) okA1 (by omega);rw[show 1034+2*(k-512)=10+2*k by omega]at h;exact h
 by_cases g2:k<1536
 ·have h:=allA_at 512 (k-1024) okA2 (by omega);rw[show 2058+2*(k-1024)=10+2*k by omega]at h;exact h
 by_cases g3:k<2048
 ·have h:=allA_at 512 (k-1536) okA3 (by omega);rw[show 3082+2*(k-1536)=10+2*k by omega]at h;exact h
 by_cases g4:k<2560
 ·have h:=allA_at 512 (k-2048) okA4 (by omega);rw[show 4106+2*(k-2048)=10+2*k by omega]at h;exact h
 by_cases g5:k<3072
 ·have h:=allA_at 512 (k-2560) okA5 (by omega);rw[show 5130+2*(k-2560)=10+2*k by omega]at h;exact h
 by_cases g6:k<3584
 ·have h:=allA_at 512 (k-3072) okA6 (by omega);rw[show 6154+2*(k-3072)=10+2*k by omega]at h;exact h
 by_cases g7:k<4096
 ·have h:=allA_at 512 (k-3584) okA7 (by omega);rw[show 7178+2*(k-3584)=10+2*k by omega]at h;exact h
 by_cases g8:k<4608
 ·have h:=allA_at 512 (k-4096) okA8 (by omega);rw[show 8202+2*(k-4096)=10+2*k by omega]at h;exact h
 by_cases g9:k<5120
 ·have h:=allA_at 512 (k-4608) okA9 (by omega);rw[show 9226+2*(k-4608)=10+2*k by omega]at h;exact h
 by_cases g10:k<5632
 ·have h:=allA_at 512 (k-5120) okA10 (by omega);rw[show 10250+2*(k-5120)=10+2*k by omega]at h;exact h
 by_cases g11:k<6144
 ·have h:=allA_at 512 (k-5632) okA11 (by omega);rw[show 11274+2*(k-5632)=10+2*k by omega]at h;exact h
 by_cases g12:k<6656
 ·have h:=allA_at 512 (k-6144) okA12 (by omega);rw[show 12298+2*(k-6144)=10+2*k by omega]at h;exact h
 by_cases g13:k<7168
 ·have h:=allA_at 512 (k-6656) okA13 (by omega);rw[show 13322+2*(k-6656)=10+2*k by omega]at h;exact h
 by_cases g14:k<7680
 ·have h:=allA_at 512 (k-7168) okA14 (by omega);rw[show 14346+2*(k-7168)=10+2*k by omega]at h;exact h
 by_cases g15:k<8192
 ·have h:=allA_at 512 (k-7680) okA15 (by omega);rw[show 15370+2*(k-7680)=10+2*k by omega]at h;exact h
 by_cases g16:k<8704
 ·have h:=allA_at 512 (k-8192) okA16 (by omega);rw[show 16394+2*(k-8192)=10+2*k by omega]at h;exact h
 by_cases g17:k<9216
 ·have h:=allA_at 512 (k-8704) okA17 (by omega);rw[show 17418+2*(k-8704)=10+2*k by omega]at h;exact h
 by_cases g18:k<9728
 ·have h:=allA_at 512 (k-9216) okA18 (by omega);rw[show 18442+2*(k-9216)=10+2*k by omega]at h;exact h
 by_cases g19:k<10240
 ·have h:=allA_at 512 (k-9728) okA19 (by omega);rw[show 19466+2*(k-9728)=10+2*k by omega]at h;exact h
 by_cases g20:k<10752
 ·have h:=allA_at 512 (k-10240) okA20 (by omega);rw[show 20490+2*(k-10240)=10+2*k by omega]at h;exact h
 by_cases g21:k<11264
 ·have h:=allA_at 512 (k-10752) okA21 (by omega);rw[show 21514+2*(k-10752)=10+2*k by omega]at h;exact h
 by_cases g22:k<11776
 ·have h:=allA_at 512 (k-11264) okA22 (by omega);rw[show 22538+2*(k-11264)=10+2*k by omega]at h;exact h
 by_cases g23:k<12288
 ·have h:=allA_at 512 (k-11776) okA23 (by omega);rw[show 23562+2*(k-11776)=10+2*k by omega]at h;exact h
 by_cases g24:k<12800
 ·have h:=allA_at 512 (k-12288) okA24 (by omega);rw[show 24586+2*(k-12288)=10+2*k by omega]at h;exact h
 by_cases g25:k<13312
 ·have h:=allA_at 512 (k-12800) okA25 (by omega);rw[show 25610+2*(k-12800)=10+2*k by omega]at h;exact h
 by_cases g26:k<13824
 ·have h:=allA_at 512 (k-13312) okA26 (by omega);rw[show 26634+2*(k-13312)=10+2*k by omega]at h;exact h
 by_cases g27:k<14336
 ·have h:=allA_at 512 (k-13824) okA27 (by omega);rw[show 27658+2*(k-13824)=10+2*k by omega]at h;exact h
 by_cases g28:k<14848
 ·have h:=allA_at 512 (k-14336) okA28 (by omega);rw[show 28682+2*(k-14336)=10+2*k by omega]at h;exact h
 by_cases g29:k<15360
 ·have h:=allA_at 512 (k-14848) okA29 (by omega);rw[show 29706+2*(k-14848)=10+2*k by omega]at h;exact h
 by_cases g30:k<15872
 ·have h:=allA_at 512 (k-15360) okA30 (by omega);rw[show 30730+2*(k-15360)=10+2*k by omega]at h;exact h
 by_cases g31:k<16384
 ·have h:=allA_at 512 (k-15872) okA31 (by omega);rw[show 31754+2*(k-15872)=10+2*k by omega]at h;exact h
 omega
theorem miller {n:Nat} (hn:7<n) (hL:n≤1073741824) (n2:¬2 ∣ n) (n3:¬3 ∣ n) (n5:¬5 ∣ n) (n7:¬7 ∣ n) (s2:SP n 2) (s3:SP n 3) (s5:SP n 5) (s7:SP n 7):Prm n:=miller_of go_tab cov_tab okA_all hn hL n2 n3 n5 n7 s2 s3 s5 s7
end Rad
#print axioms Rad.miller
namespace Go.Proofs.YtffdemplaodbcaaDoor
open Go Go.Proofs Go.RowKit Go.Rad
open _root_.Rad (SP Prm odd_unique)
def fourB (k:Nat):Nat:=[2,3,5,7].getD k 0
def PrI (n:Int):Prop:=∃N:Nat,n=N∧Prm N∧N≤1073741824
theorem prm_small {p:Nat} (h2:2≤p) (h:∀d,d<p→2≤d→¬d ∣ p):Prm p:=by
 refine⟨h2,fun d hd=>?_⟩;have h1:=Nat.le_of_dvd (by omega) hd;have h0:d≠0:=fun h0=>by rw[h0]at hd;have:=Nat.eq_zero_of_zero_dvd hd;omega
 rcases Nat.lt_or_ge d p with h3|h3
 ·left;rcases Nat.lt_or_ge d 2 with h4|h4
  ·omega
  ·exact absurd hd (h d h3 h4)
 ·right;omega
theorem prm2:Prm 2:=prm_small (by decide) (by decide)
theorem prm3:Prm 3:=prm_small (by decide) (by decide)
theorem prm5:Prm 5:=prm_small (by decide) (by decide)
theorem prm7:Prm 7:=prm_small (by decide) (by decide)
theorem gt7 {N:Nat} (h:2≤N) (h4:¬2 ∣ N∧¬3 ∣ N∧¬5 ∣ N∧¬7 ∣ N):10<N:=by
 rcases Nat.lt_or_ge 10 N with h1|h1
 ·exact h1
 ·have h5:N=2∨N=3∨N=4∨N=5∨N=6∨N=7∨N=8∨N=9∨N=10:=(by omega);rcases h5 with rfl|rfl|rfl|rfl|rfl|rfl|rfl|rfl|rfl <;> exact absurd h4 (by decide)
theorem prm_sp {N:Nat} (h:Prm N) (h4:¬2 ∣ N∧¬3 ∣ N∧¬5 ∣ N∧¬7 ∣ N) (b:Nat) (hb0:0<b) (hb7:b≤7):SP N b:=by have h7:=gt7 h.two h4;obtain⟨t,h1,h2⟩:=_root_.Rad.od_eq N (N-1) (by omega) (by have:N<2^N:=Nat.lt_two_pow_self;omega);exact⟨t,_,h1,h2,h.sp (by omega) (fun hd=>by have:=Nat.le_of_dvd hb0 hd;omega) h1 h2⟩
theorem seems_sp (w:World) (N b:Nat) (h4:10<N∧¬2 ∣ N∧b≤7) (hN:2≤N∧N≤1073741824) (ht:TabB w):
 Calls Tryd.prog 62 #[.int .i64 N, .int .i64 b] w fun e w'=>BoolIs w (SP N b) e w':=by
 obtain⟨s,h1,h2⟩:=_root_.Rad.od_eq N (N-1) (by omega) (by have:N<2^N:=Nat.lt_two_pow_self;omega);have hs:1≤s:=by
  rcases Nat.eq_zero_or_pos s with h|h
  ·rw[h,Nat.pow_zero,Nat.one_mul]at h1;exfalso;omega
  ·exact h
 refine(seems_any w N b s _ (by omega) (by omega) (by omega) h1 h2 hs ht).mono ?_;rintro e w' ⟨r,he,hr,hb⟩;refine .mk r he (hr.trans ⟨fun h=>⟨s,_,h1,h2,h⟩,?_⟩) hb;rintro⟨s',d',g1,g2,g3⟩;obtain⟨rfl,rfl⟩:=odd_unique (g1.symm.trans h1) g2 h2;exact g3
set_option maxRecDepth 10000 in
set_option maxHeartbeats 1000000 in
theorem isPrime_any (w:World) (n:Int) (ht:TabB w):
 Calls Tryd.prog 37 #[.int .i64 n] w fun e w'=>BoolIs w (PrI n) e w':=by
 by_cases h2:n<2
 ·have HF:Hid (¬PrI n):=(by rintro⟨N,rfl,h,-⟩;have:=h.two;omega);go_enter Tryd.func37,Tryd.ntmps37;go_wp2;refine bodyPost_ret (v:= .bool false) (by simp[results,go_sem,loadVar]) rfl ?_;exact .mk false rfl ⟨fun h=>(by cases h),fun h=>absurd h HF.out⟩ (Below.refl _ _)
 by_cases h3:1073741824<n
 ·have HF:Hid (¬PrI n):=(by rintro⟨N,rfl,h,h4⟩;omega);go_enter Tryd.func37,Tryd.ntmps37;go_wp2;refine bodyPost_ret (v:= .bool false) (by simp[results,go_sem,loadVar]) rfl ?_;exact .mk false rfl ⟨fun h=>(by cases h),fun h=>absurd h HF.out⟩ (Below.refl _ _)
 obtain⟨N,rfl⟩:∃N:Nat,n=N:=⟨n.toNat,by omega⟩;have hN:2≤N∧N≤1073741824:=(by omega);have HT:Hid (TabB w):=ht;clear ht;have i0:∀w,(Instr.index 76 (.agg #[.int .i64 2, .int .i64 3, .int .i64 5, .int .i64 7]) (.int .i64 0)).run Tryd.prog w= .ok (.int .i64 2) w:=fun _=>by kernel_rfl
 have i1:∀w,(Instr.index 76 (.agg #[.int .i64 2, .int .i64 3, .int .i64 5, .int .i64 7]) (.int .i64 1)).run Tryd.prog w= .ok (.int .i64 3) w:=fun _=>by kernel_rfl
 have i2:∀w,(Instr.index 76 (.agg #[.int .i64 2, .int .i64 3, .int .i64 5, .int .i64 7]) (.int .i64 2)).run Tryd.prog w= .ok (.int .i64 5) w:=fun _=>by kernel_rfl
 have i3:∀w,(Instr.index 76 (.agg #[.int .i64 2, .int .i64 3, .int .i64 5, .int .i64 7]) (.int .i64 3)).run Tryd.prog w= .ok (.int .i64 7) w:=fun _=>by kernel_rfl
 go_enter Tryd.func37,Tryd.ntmps37;go_wp2;go_loopw [14] (fun i wr=>∃k:Nat,k≤4∧i= .int .i64 k∧(∀j,j<k→¬fourB j ∣ N)∧wr=w) (fun i _=>4-(Lib.intOf i).toNat)
 case atStart=>exact⟨0,by omega,rfl,fun j hj=>by omega,rfl⟩
 case round=>
  obtain⟨k,hk,rfl,hno,rfl⟩:=hrel;have HNO:Hid (∀j,j<k→¬fourB j ∣ N):=hno;clear hno
  match k,hk with
  |0,_=>
   by_cases hm:N%2=0
   ·have hmi:(N:Int)%2=0:=(by omega);by_cases he:N=2
    ·have HF:Hid (PrI (N:Int)):=⟨N,rfl,by rw[he];exact prm2,by omega⟩;subst he;go_wp2;refine bodyPost_ret (v:= .bool true) (by simp[results,go_sem,loadVar]) rfl ?_;exact .mk true rfl ⟨fun _=>HF.out,fun _=>rfl⟩ (Below.refl _ _)
    ·have HF:Hid (¬PrI (N:Int)):=(by rintro⟨M,h1,hpm,-⟩;obtain rfl:M=N:=(by omega);rcases hpm.2 2 (Nat.dvd_of_mod_eq_zero hm)with h|h <;> omega);have hne:((N:Int)==2)=false:=(by simpa using (show ¬(N:Int)=2 by omega));go_wp2;refine bodyPost_ret (v:= .bool false) (by simp[results,go_sem,loadVar]) rfl ?_;exact .mk false rfl ⟨fun h=>(by cases h),fun h=>absurd h HF.out⟩ (Below.refl _ _)
   ·have hmi:¬(N:Int)%2=0:=(by omega);have HM:Hid (¬N%2=0):=hm;clear hm;go_wp2;go_roundw
    case rel=>
     refine⟨1,by omega,by first|rfl|trivial,fun j hj=>?_,by first|rfl|trivial⟩;rcases Nat.lt_or_ge j 0 with h|h
     ·exact HNO.out j h
     ·obtain rfl:j=0:=(by omega);exact fun hd=>HM.out (Nat.mod_eq_zero_of_dvd hd)
    case measure=>simp[Lib.intOf]
  |1,_=>
   by_cases hm:N%3=0
   ·have hmi:(N:Int)%3=0:=(by omega);by_cases he:N=3
    ·have HF:Hid (PrI (N:Int)):=⟨N,rfl,by rw[he];exact prm3,by omega⟩;subst he;go_wp2;refine bodyPost_ret (v:= .bool true) (by simp[results,go_sem,loadVar]) rfl ?_;exact .mk true rfl ⟨fun _=>HF.out,fun _=>rfl⟩ (Below.refl _ _)
    ·have HF:Hid (¬PrI (N:Int)):=(by rintro⟨M,h1,hpm,-⟩;obtain rfl:M=N:=(by omega);rcases hpm.2 3 (Nat.dvd_of_mod_eq_zero hm)with h|h <;> omega);have hne:((N:Int)==3)=false:=(by simpa using (show ¬(N:Int)=3 by omega));go_wp2;refine bodyPost_ret (v:= .bool false) (by simp[results,go_sem,loadVar]) rfl ?_;exact .mk false rfl ⟨fun h=>(by cases h),fun h=>absurd h HF.out⟩ (Below.refl _ _)
   ·have hmi:¬(N:Int)%3=0:=(by omega);have HM:Hid (¬N%3=0):=hm;clear hm;go_wp2;go_roundw
    case rel=>
     refine⟨2,by omega,by first|rfl|trivial,fun j hj=>?_,by first|rfl|trivial⟩;rcases Nat.lt_or_ge j 1 with h|h
     ·exact HNO.out j h
     ·obtain rfl:j=1:=(by omega);exact fun hd=>HM.out (Nat.mod_eq_zero_of_dvd hd)
    case measure=>simp[Lib.intOf]
  |2,_=>
   by_cases hm:N%5=0
   ·have hmi:(N:Int)%5=0:=(by omega);by_cases he:N=5
    ·have HF:Hid (PrI (N:Int)):=⟨N,rfl,by rw[he];exact prm5,by omega⟩;subst he;go_wp2;refine bodyPost_ret (v:= .bool true) (by simp[results,go_sem,loadVar]) rfl ?_;exact .mk true rfl ⟨fun _=>HF.out,fun _=>rfl⟩ (Below.refl _ _)
    ·have HF:Hid (¬PrI (N:Int)):=(by rintro⟨M,h1,hpm,-⟩;obtain rfl:M=N:=(by omega);rcases hpm.2 5 (Nat.dvd_of_mod_eq_zero hm)with h|h <;> omega);have hne:((N:Int)==5)=false:=(by simpa using (show ¬(N:Int)=5 by omega));go_wp2;refine bodyPost_ret (v:= .bool false) (by simp[results,go_sem,loadVar]) rfl ?_;exact .mk false rfl ⟨fun h=>(by cases h),fun h=>absurd h HF.out⟩ (Below.refl _ _)
   ·have hmi:¬(N:Int)%5=0:=(by omega);have HM:Hid (¬N%5=0):=hm;clear hm;go_wp2;go_roundw
    case rel=>
     refine⟨3,by omega,by first|rfl|trivial,fun j hj=>?_,by first|rfl|trivial⟩;rcases Nat.lt_or_ge j 2 with h|h
     ·exact HNO.out j h
     ·obtain rfl:j=2:=(by omega);exact fun hd=>HM.out (Nat.mod_eq_zero_of_dvd hd)
    case measure=>simp[Lib.intOf]
  |3,_=>
   by_cases hm:N%7=0
   ·have hmi:(N:Int)%7=0:=(by omega);by_cases he:N=7
    ·have HF:Hid (PrI (N:Int)):=⟨N,rfl,by rw[he];exact prm7,by omega⟩;subst he;go_wp2;refine bodyPost_ret (v:= .bool true) (by simp[results,go_sem,loadVar]) rfl ?_;exact .mk true rfl ⟨fun _=>HF.out,fun _=>rfl⟩ (Below.refl _ _)
    ·have HF:Hid (¬PrI (N:Int)):=(by rintro⟨M,h1,hpm,-⟩;obtain rfl:M=N:=(by omega);rcases hpm.2 7 (Nat.dvd_of_mod_eq_zero hm)with h|h <;> omega);have hne:((N:Int)==7)=false:=(by simpa using (show ¬(N:Int)=7 by omega));go_wp2;refine bodyPost_ret (v:= .bool false) (by simp[results,go_sem,loadVar]) rfl ?_;exact .mk false rfl ⟨fun h=>(by cases h),fun h=>absurd h HF.out⟩ (Below.refl _ _)
   ·have hmi:¬(N:Int)%7=0:=(by omega);have HM:Hid (¬N%7=0):=hm;clear hm;go_wp2;go_roundw
    case rel=>
     refine⟨4,by omega,by first|rfl|trivial,fun j hj=>?_,by first|rfl|trivial⟩;rcases Nat.lt_or_ge j 3 with h|h
     ·exact HNO.out j h
     ·obtain rfl:j=3:=(by omega);exact fun hd=>HM.out (Nat.mod_eq_zero_of_dvd hd)
    case measure=>simp[Lib.intOf]
  |4,_=>
   have HM:Hid (¬2 ∣ N∧¬3 ∣ N∧¬5 ∣ N∧¬7 ∣ N):=⟨HNO.out 0 (by omega),HNO.out 1 (by omega),HNO.out 2 (by omega),HNO.out 3 (by omega)⟩;clear HNO;rw[show((4:Nat):Int)=4 from rfl];go_wp2;go_loopw [26] (fun i w2=>∃k:Nat,k≤4∧i= .int .i64 k∧(∀j,j<k→SP N (fourB j))∧Below wr.heap.size wr w2) (fun i _=>4-(Lib.intOf i).toNat)
   case atStart=>exact⟨0,by omega,rfl,fun j hj=>by omega,Below.refl _ _⟩
   case round=>
    obtain⟨k,hk,rfl,hno,hB⟩:=hrel;have HNO:Hid (∀j,j<k→SP N (fourB j)):=hno;have HB:Hid _:=hB;clear hno hB
    match k,hk with
    |0,_=>
     have CS:=seems_sp _ N 2 (by have:=HM.out;have:=gt7 hN.1 HM.out;omega) hN (HT.out.below HB.out);go_wp2_with (go_at_call 62;fail);refine CS.mono ?_;rintro e w3 ⟨r,rfl,hr,hb3⟩;have HB3:Hid _:=HB.out.trans (hb3.mono HB.out.size);clear CS hb3;cases r with
     |true=>
      have HR:Hid (SP N 2):=hr.1 rfl;clear hr;go_wp2;go_roundw
      case rel=>
       refine⟨1,by omega,by first|rfl|trivial,fun j hj=>?_,HB3.out⟩;rcases Nat.lt_or_ge j 0 with h|h
       ·exact HNO.out j h
       ·obtain rfl:j=0:=(by omega);exact HR.out
      case measure=>simp[Lib.intOf]
     |false=>have HF:Hid (¬PrI (N:Int)):=(by rintro⟨M,h1,hpm,-⟩;obtain rfl:M=N:=(by omega);exact absurd (hr.2 (prm_sp hpm HM.out 2 (by decide) (by decide))) (by simp));clear hr;go_wp2;refine bodyPost_ret (v:= .bool false) (by simp[results,go_sem,loadVar]) rfl ?_;exact .mk false rfl ⟨fun h=>(by cases h),fun h=>absurd h HF.out⟩ HB3.out
    |1,_=>
     have CS:=seems_sp _ N 3 (by have:=HM.out;have:=gt7 hN.1 HM.out;omega) hN (HT.out.below HB.out);go_wp2_with (go_at_call 62;fail);refine CS.mono ?_;rintro e w3 ⟨r,rfl,hr,hb3⟩;have HB3:Hid _:=HB.out.trans (hb3.mono HB.out.size);clear CS hb3;cases r with
     |true=>
      have HR:Hid (SP N 3):=hr.1 rfl;clear hr;go_wp2;go_roundw
      case rel=>
       refine⟨2,by omega,by first|rfl|trivial,fun j hj=>?_,HB3.out⟩;rcases Nat.lt_or_ge j 1 with h|h
       ·exact HNO.out j h
       ·obtain rfl:j=1:=(by omega);exact HR.out
      case measure=>simp[Lib.intOf]
     |false=>have HF:Hid (¬PrI (N:Int)):=(by rintro⟨M,h1,hpm,-⟩;obtain rfl:M=N:=(by omega);exact absurd (hr.2 (prm_sp hpm HM.out 3 (by decide) (by decide))) (by simp));clear hr;go_wp2;refine bodyPost_ret (v:= .bool false) (by simp[results,go_sem,loadVar]) rfl ?_;exact .mk false rfl ⟨fun h=>(by cases h),fun h=>absurd h HF.out⟩ HB3.out
    |2,_=>
     have CS:=seems_sp _ N 5 (by have:=HM.out;have:=gt7 hN.1 HM.out;omega) hN (HT.out.below HB.out);go_wp2_with (go_at_call 62;fail);refine CS.mono ?_;rintro e w3 ⟨r,rfl,hr,hb3⟩;have HB3:Hid _:=HB.out.trans (hb3.mono HB.out.size);clear CS hb3;cases r with
     |true=>
      have HR:Hid (SP N 5):=hr.1 rfl;clear hr;go_wp2;go_roundw
      case rel=>
       refine⟨3,by omega,by first|rfl|trivial,fun j hj=>?_,HB3.out⟩;rcases Nat.lt_or_ge j 2 with h|h
       ·exact HNO.out j h
       ·obtain rfl:j=2:=(by omega);exact HR.out
      case measure=>simp[Lib.intOf]
     |false=>have HF:Hid (¬PrI (N:Int)):=(by rintro⟨M,h1,hpm,-⟩;obtain rfl:M=N:=(by omega);exact absurd (hr.2 (prm_sp hpm HM.out 5 (by decide) (by decide))) (by simp));clear hr;go_wp2;refine bodyPost_ret (v:= .bool false) (by simp[results,go_sem,loadVar]) rfl ?_;exact .mk false rfl ⟨fun h=>(by cases h),fun h=>absurd h HF.out⟩ HB3.out
    |3,_=>
     have CS:=seems_sp _ N 7 (by have:=HM.out;have:=gt7 hN.1 HM.out;omega) hN (HT.out.below HB.out);go_wp2_with (go_at_call 62;fail);refine CS.mono ?_;rintro e w3 ⟨r,rfl,hr,hb3⟩;have HB3:Hid _:=HB.out.trans (hb3.mono HB.out.size);clear CS hb3;cases r with
     |true=>
      have HR:Hid (SP N 7):=hr.1 rfl;clear hr;go_wp2;go_roundw
      case rel=>
       refine⟨4,by omega,by first|rfl|trivial,fun j hj=>?_,HB3.out⟩;rcases Nat.lt_or_ge j 3 with h|h
       ·exact HNO.out j h
       ·obtain rfl:j=3:=(by omega);exact HR.out
      case measure=>simp[Lib.intOf]
     |false=>have HF:Hid (¬PrI (N:Int)):=(by rintro⟨M,h1,hpm,-⟩;obtain rfl:M=N:=(by omega);exact absurd (hr.2 (prm_sp hpm HM.out 7 (by decide) (by decide))) (by simp));clear hr;go_wp2;refine bodyPost_ret (v:= .bool false) (by simp[results,go_sem,loadVar]) rfl ?_;exact .mk false rfl ⟨fun h=>(by cases h),fun h=>absurd h HF.out⟩ HB3.out
    |4,_=>have HF:Hid (PrI (N:Int)):=⟨N,rfl,_root_.Rad.miller (by have:=gt7 hN.1 HM.out;omega) hN.2 HM.out.1 HM.out.2.1 HM.out.2.2.1 HM.out.2.2.2 (HNO.out 0 (by omega)) (HNO.out 1 (by omega)) (HNO.out 2 (by omega)) (HNO.out 3 (by omega)),hN.2⟩;clear HNO;go_wp2;refine bodyPost_ret (v:= .bool true) (by simp[results,go_sem,loadVar]) rfl ?_;exact .mk true rfl ⟨fun _=>HF.out,fun _=>rfl⟩ HB.out
end Go.Proofs.YtffdemplaodbcaaDoor
namespace Go.Proofs.YtffdemplaodbcaaDoor
open Go Go.Proofs Go.RowKit Go.Rad
open _root_.Rad (SP Prm odd_unique)
theorem prm_sqrt {N D:Nat} (h2:2≤N) (hD:N<D*D) (h:∀d,2≤d→d<D→¬d ∣ N):Prm N:=by
 refine⟨h2,fun d hd=>?_⟩;obtain⟨c,hc⟩:=hd;have hd0:d≠0:=fun e=>by rw[e,Nat.zero_mul]at hc;omega
 have hc0:c≠0:=fun e=>by rw[e,Nat.mul_zero]at hc;omega
 by_cases h1:d=1
 ·exact .inl h1
 by_cases h3:c=1
 ·right;rw[hc,h3,Nat.mul_one]
 exfalso;rcases Nat.lt_or_ge d D with h4|h4
 ·exact h d (by omega) h4 ⟨c,hc⟩
 ·rcases Nat.lt_or_ge c D with h5|h5
  ·exact h c (by omega) h5 ⟨d,by rw[hc,Nat.mul_comm]⟩
  ·have:=Nat.mul_le_mul h4 h5;omega
set_option maxRecDepth 10000 in
set_option maxHeartbeats 1000000 in
theorem refPrime_any (w:World) (n:Int) (hn:n≤1073741824):
 Calls Tryd.prog 28 #[.int .i64 n] w fun e w'=>BoolIs w (PrI n) e w':=by
 by_cases h2:n<2
 ·have HF:Hid (¬PrI n):=(by rintro⟨N,rfl,h,-⟩;have:=h.two;omega);go_enter Tryd.func28,Tryd.ntmps28;go_wp2;refine bodyPost_ret (v:= .bool false) (by simp[results,go_sem,loadVar]) rfl ?_;exact .mk false rfl ⟨fun h=>(by cases h),fun h=>absurd h HF.out⟩ (Below.refl _ _)
 obtain⟨N,rfl⟩:∃N:Nat,n=N:=⟨n.toNat,by omega⟩;have hN:2≤N∧N≤1073741824:=(by omega);go_enter Tryd.func28,Tryd.ntmps28;go_wp2;go_loopw [3] (fun i wr=>∃k:Nat,2≤k∧k≤32769∧i= .int .i64 k∧(∀d,2≤d→d<k→¬d ∣ N)∧wr=w) (fun i _=>32769-(Lib.intOf i).toNat)
 case atStart=>exact⟨2,by omega,by omega,rfl,fun j hj=>by omega,rfl⟩
 case round=>
  obtain⟨k,hk2,hk,rfl,hno,rfl⟩:=hrel;have HNO:Hid (∀d,2≤d→d<k→¬d ∣ N):=hno;clear hno;obtain⟨q,hq⟩:∃q:Int,(k:Int)*k=q:=⟨_,rfl⟩;have HQ:Hid ((k:Int)*k=q):=hq;have hqb:0≤q∧q≤1073807361:=(by rw[←hq];have:=Nat.mul_le_mul hk hk;rw[←Int.natCast_mul];omega);have hw:wrap64 ((k:Int)*k)=q:=(by rw[hq];exact wrap_in hqb.1 (by omega));clear hq;by_cases hle:q≤(N:Int)
  ·have hk':k<32769:=by
    rcases Nat.lt_or_ge k 32769 with h|h
    ·exact h
    ·have h9:k=32769:=(by omega);have:=HQ.out;rw[h9]at this;omega
   by_cases hm:N%k=0
   ·have hmi:(N:Int)%(k:Int)=0:=(by omega);have HF:Hid (¬PrI (N:Int)):=by
     rintro⟨M,h1,hpm,-⟩;obtain rfl:N=M:=(by omega);rcases hpm.2 k (Nat.dvd_of_mod_eq_zero hm)with h|h
     ·omega
     ·have:=HQ.out;rw[h]at this;have h5:N*2≤N*N:=Nat.mul_le_mul_left _ hN.1;rw[←Int.natCast_mul]at this;omega
    clear hm;go_wp2;refine bodyPost_ret (v:= .bool false) (by simp[results,go_sem,loadVar]) rfl ?_;exact .mk false rfl ⟨fun h=>(by cases h),fun h=>absurd h HF.out⟩ (Below.refl _ _)
   ·have hmi:¬(N:Int)%(k:Int)=0:=(by omega);have HM:Hid (¬N%k=0):=hm;clear hm;go_wp2;go_roundw
    case rel=>
     refine⟨k+1,by omega,by omega,by first|rfl|trivial,fun j hj1 hj=>?_,by first|rfl|trivial⟩;rcases Nat.lt_or_ge j k with h|h
     ·exact HNO.out j hj1 h
     ·obtain rfl:j=k:=(by omega);exact fun hd=>HM.out (Nat.mod_eq_zero_of_dvd hd)
    case measure=>simp only[Lib.intOf];omega
  ·have HF:Hid (PrI (N:Int)):=⟨N,rfl,prm_sqrt hN.1 (D:=k) (by have:=HQ.out;rw[←Int.natCast_mul]at this;omega) HNO.out,hN.2⟩;go_wp2;refine bodyPost_ret (v:= .bool true) (by simp[results,go_sem,loadVar]) rfl ?_;exact .mk true rfl ⟨fun _=>HF.out,fun _=>rfl⟩ (Below.refl _ _)
set_option maxRecDepth 10000 in
theorem rfault_any (w:World) (c a:Int):Calls Tryd.prog 29 #[.int .i64 c, .int .i64 a] w fun e w'=>e= .returned (.agg #[.int .i64 c, .int .i64 a])∧Below w.heap.size w w':=by go_enter Tryd.func29,Tryd.ntmps29;go_wp2;refine bodyPost_ret (v:= .agg #[.int .i64 c, .int .i64 a]) (by simp[results,go_sem,loadVar]) rfl ?_;exact⟨rfl,bel1 _ _⟩
set_option maxRecDepth 10000 in
theorem fault_any (w:World) (c a:Int):Calls Tryd.prog 16 #[.int .i64 c, .int .i64 a] w fun e w'=>e= .returned (.agg #[.int .i64 c, .int .i64 a])∧Below w.heap.size w w':=by go_enter Tryd.func16,Tryd.ntmps16;go_wp2;refine bodyPost_ret (v:= .agg #[.int .i64 c, .int .i64 a]) (by simp[results,go_sem,loadVar]) rfl ?_;exact⟨rfl,bel1 _ _⟩
end Go.Proofs.YtffdemplaodbcaaDoor
namespace Go.Proofs.YtffdemplaodbcaaDoor
open Go Go.Proofs Go.RowKit Go.Rad
inductive IL (w:World) (v:Value) (xs:List Int):Prop
 |mk (a:Option Addr) (b o n c:Nat) (hv:v= .slice a n c) (hn:xs.length=n) (ha:0<n→a=some ⟨b,o,none⟩) (hc:∀i,i<n→w.cell? ⟨b,o+i,none⟩=some (.int .i64 (xs.getD i 0))) (hm:n≤17592186044416)
theorem IL.below {w w':World} {v:Value} {xs:List Int} (h:IL w v xs) (hb:Below w.heap.size w w'):IL w' v xs:=by obtain⟨a,b,o,n,c,hv,hn,ha,hc,hm⟩:=h;exact⟨a,b,o,n,c,hv,hn,ha,fun i hi=>(hb.cell (p:=⟨b,o+i,none⟩) (block_lt (hc i hi))).trans (hc i hi),hm⟩
theorem IL.nil (w:World) (a:Option Addr) (c:Nat):IL w (.slice a 0 c) []:=⟨a,0,0,0,c,rfl,rfl,fun h=>by omega,fun i hi=>by omega,by decide⟩
def badN (p x:Int):Prop:=x<0∨p≤x
instance (p x:Int):Decidable (badN p x):=by unfold badN;infer_instance
def badAt (p:Int):List Int→Nat→Option Nat
 |[],_=>none
 |x::xs,k=>if badN p x then some k else badAt p xs (k+1)
theorem badAt_some {p:Int}:∀(xs:List Int) (s k:Nat),k<xs.length→(∀j,j<k→¬badN p (xs.getD j 0))→badN p (xs.getD k 0)→badAt p xs s=some (s+k)
 |[],s,k,h,_,_=>by simp at h
 |x::xs,s,0,_,_,h=>by have h1:badN p x:=h;unfold badAt;rw[if_pos h1];rfl
 |x::xs,s,k+1,h,h1,h2=>by have h3:¬badN p x:=h1 0 (by omega);unfold badAt;rw[if_neg h3];rw[badAt_some xs (s+1) k (by simpa using h) (fun j hj=>h1 (j+1) (by omega)) h2];congr 1;omega
theorem badAt_none {p:Int}:∀(xs:List Int) (s:Nat),(∀j,j<xs.length→¬badN p (xs.getD j 0))→badAt p xs s=none
 |[],_,_=>rfl
 |x::xs,s,h=>by have h3:¬badN p x:=h 0 (by simp);unfold badAt;rw[if_neg h3];exact badAt_none xs (s+1) fun j hj=>h (j+1) (by simpa using hj)
theorem badAt_inv {p:Int}:∀(xs:List Int) (s:Nat),badAt p xs s=none→∀j,j<xs.length→¬badN p (xs.getD j 0)
 |[],_,_,j,hj=>by simp at hj
 |x::xs,s,h,j,hj=>by
  unfold badAt at h
  split at h
  ·cases h
  ·rename_i h1
   cases j with
   |zero=>exact h1
   |succ j=>exact badAt_inv xs (s+1) h j (by simpa using hj)
open Classical in
noncomputable def ckP (p:Int) (xs:List Int):Int×Int:=
 if PrI p then
  if 65<xs.length then (9,0)
  else match badAt p xs 0 with
   |some k=>(7,(k:Int))
   |none=>if 0<xs.length∧xs.getD (xs.length-1) 0=0 then (3,(xs.length:Int)-1) else (0,0)
 else (6,0)
noncomputable def ckC (p:Int) (xs:List Int):Int:=(ckP p xs).1
noncomputable def ckA (p:Int) (xs:List Int):Int:=(ckP p xs).2
structure IsF (p:Int) (xs:List Int):Prop where
 pr:PrI p
 len:xs.length≤65
 ok:∀j,j<xs.length→0≤xs.getD j 0∧xs.getD j 0<p
 last:0<xs.length→xs.getD (xs.length-1) 0≠0
theorem ck_pr {p:Int} {xs:List Int} (h:¬PrI p):ckC p xs=6∧ckA p xs=0:=by unfold ckC ckA ckP;rw[if_neg h];exact⟨rfl,rfl⟩
theorem ck_len {p:Int} {xs:List Int} (h:PrI p) (hl:65<xs.length):ckC p xs=9∧ckA p xs=0:=by unfold ckC ckA ckP;rw[if_pos h,if_pos hl];exact⟨rfl,rfl⟩
theorem ck_bad {p:Int} {xs:List Int} (h:PrI p) (hl:¬65<xs.length) {k:Nat} (hk:k<xs.length) (h1:∀j,j<k→¬badN p (xs.getD j 0)) (h2:badN p (xs.getD k 0)):ckC p xs=7∧ckA p xs=k:=by unfold ckC ckA ckP;rw[if_pos h,if_neg hl,badAt_some xs 0 k hk h1 h2,Nat.zero_add];exact⟨rfl,rfl⟩
theorem ck_last {p:Int} {xs:List Int} (h:PrI p) (hl:¬65<xs.length) (h1:∀j,j<xs.length→¬badN p (xs.getD j 0)) (h2:0<xs.length∧xs.getD (xs.length-1) 0=0):ckC p xs=3∧ckA p xs=(xs.length:Int)-1:=by unfold ckC ckA ckP;rw[if_pos h,if_neg hl,badAt_none xs 0 h1];simp only[];rw[if_pos h2];exact⟨rfl,rfl⟩
theorem ck_ok {p:Int} {xs:List Int} (h:PrI p) (hl:¬65<xs.length) (h1:∀j,j<xs.length→¬badN p (xs.getD j 0)) (h2:¬(0<xs.length∧xs.getD (xs.length-1) 0=0)):ckC p xs=0∧ckA p xs=0:=by unfold ckC ckA ckP;rw[if_pos h,if_neg hl,badAt_none xs 0 h1];simp only[];rw[if_neg h2];exact⟨rfl,rfl⟩
theorem ck_isF {p:Int} {xs:List Int} (h:ckC p xs=0):IsF p xs:=by
 unfold ckC ckP at h
 split at h
 ·rename_i h1
  split at h
  ·cases h
  ·rename_i h2
   cases hb:badAt p xs 0 with
   |some k=>rw[hb]at h;cases h
   |none=>
    rw[hb]at h;simp only[]at h
    split at h
    ·cases h
    ·rename_i h3
     refine⟨h1,by omega,fun j hj=>?_,fun h4 h5=>h3 ⟨h4,h5⟩⟩;have:=badAt_inv xs 0 hb j hj;unfold badN at this;omega
 ·cases h
theorem IsF.ck {p:Int} {xs:List Int} (h:IsF p xs):ckC p xs=0∧ckA p xs=0:=ck_ok h.pr (by have:=h.len;omega) (fun j hj=>by have:=h.ok j hj;unfold badN;omega) (fun h1=>h.last h1.1 h1.2)
abbrev Flt (c a:Int):Value:= .agg #[.int .i64 c, .int .i64 a]
set_option maxRecDepth 10000 in
set_option maxHeartbeats 1000000 in
theorem check_any (w:World) (v:Value) (xs:List Int) (p:Int) (hv:IL w v xs) (ht:TabB w):
 Calls Tryd.prog 13 #[v, .int .i64 p] w fun e w'=>e= .returned (Flt (ckC p xs) (ckA p xs))∧Below w.heap.size w w':=by
 obtain⟨a,b,o,n,c,rfl,hn,ha,hc,hm⟩:=hv;have HT:Hid (TabB w):=ht;clear ht;go_enter Tryd.func13,Tryd.ntmps13;go_wp2_with (go_at_call 37;fail);have CP:=isPrime_any (w.alloc (Obj.cells #[.int .i64 0, .int .i64 0] 24)) p (HT.out.below (bel1 _ _));refine CP.mono ?_;rintro e w1 ⟨r,rfl,hr,hb1⟩;have hB1:Below w.heap.size w w1:=(bel1 w _).trans (hb1.mono (by simp));have hF:=(FB.mk0 w (.int .i64 0) (.int .i64 0) 24).below hb1;have HB1:Hid (Below w.heap.size w w1):=hB1;have HC:Hid (∀i,i<n→w1.cell? ⟨b,o+i,none⟩=some (.int .i64 (xs.getD i 0))):=fun i hi=>(hB1.cell (p:=⟨b,o+i,none⟩) (block_lt (hc i hi))).trans (hc i hi);have HR:Hid (r=true↔PrI p):=hr;obtain⟨b4,hb4⟩:∃x,x=w.heap.size:=⟨_,rfl⟩;rw[←hb4]at hF⊢;have HG:Hid (w.heap.size≤b4):=(by show _≤_;omega);have FIN:Hid (∀(wn:World) (u0 u1:Value) (c a:Int),FB wn b4 u0 u1→Below w.heap.size w wn→Below w.heap.size w ((wn.setCell ⟨b4,0,none⟩ (.int .i64 c)).setCell ⟨b4,1,none⟩ (.int .i64 a))):=fun wn u0 u1 c a _ hB=>below_set2 hB HG.out _ _;clear CP hc hb1 hB1 hb4 hr;obtain⟨l4,c0,c1,f0,f1⟩:=id hF;cases r with
 |false=>have K:Hid (ckC p xs=6∧ckA p xs=0):=ck_pr (xs:=xs) (fun h=>absurd (HR.out.2 h) (by simp));have E:Hid (Below w.heap.size w ((w1.setCell ⟨b4,0,none⟩ (.int .i64 6)).setCell ⟨b4,1,none⟩ (.int .i64 0))):=FIN.out w1 _ _ 6 0 hF HB1.out;clear hF;go_wp2;refine bodyPost_ret (v:=Flt 6 0) (by simp[results,go_sem,loadVar,World.cell?_setCell_same,World.cell?_setCell_other, *];try rfl) rfl ?_;exact⟨by rw[K.out.1,K.out.2],E.out⟩
 |true=>
  have HP:Hid (PrI p):=HR.out.1 rfl;by_cases hl:65<n
  ·have K:Hid (ckC p xs=9∧ckA p xs=0):=ck_len HP.out (by omega);have E:Hid (Below w.heap.size w ((w1.setCell ⟨b4,0,none⟩ (.int .i64 9)).setCell ⟨b4,1,none⟩ (.int .i64 0))):=FIN.out w1 _ _ 9 0 hF HB1.out;clear hF;go_wp2;refine bodyPost_ret (v:=Flt 9 0) (by simp[results,go_sem,loadVar,World.cell?_setCell_same,World.cell?_setCell_other, *];try rfl) rfl ?_;exact⟨by rw[K.out.1,K.out.2],E.out⟩
  ·have hl':n≤65:=(by omega);have HL:Hid (¬65<xs.length):=(by show ¬_;omega);have HF:Hid (FB w1 b4 (.int .i64 0) (.int .i64 0)):=hF;clear hF;go_wp2;go_loopw [18] (fun i wr=>∃k:Nat,k≤n∧i= .int .i64 k∧(∀j,j<k→¬badN p (xs.getD j 0))∧wr=w1) (fun i _=>n-(Lib.intOf i).toNat)
   case atStart=>exact⟨0,by omega,rfl,fun j hj=>by omega,rfl⟩
   case round=>
    obtain⟨k,hk,rfl,hno,rfl⟩:=hrel;have HNO:Hid (∀j,j<k→¬badN p (xs.getD j 0)):=hno;clear hno;by_cases hkn:k<n
    ·have hki:(k:Int)<(n:Int):=(by omega);obtain rfl:=ha (by omega);obtain⟨x,hx⟩:∃x,xs.getD k 0=x:=⟨_,rfl⟩;have hcell:=HC.out k hkn;rw[hx]at hcell;have HX:Hid (xs.getD k 0=x):=hx;clear hx;have hF:=HF.out;by_cases hb1:x<0
     ·have K:Hid (ckC p xs=7∧ckA p xs=k):=ck_bad HP.out HL.out (by omega) HNO.out (by rw[HX.out];exact .inl hb1);have E:Hid (Below w.heap.size w ((wr.setCell ⟨b4,0,none⟩ (.int .i64 7)).setCell ⟨b4,1,none⟩ (.int .i64 k))):=FIN.out wr _ _ 7 k hF HB1.out;clear hF;go_wp2;refine bodyPost_ret (v:=Flt 7 k) (by simp[results,go_sem,loadVar,World.cell?_setCell_same,World.cell?_setCell_other, *];try rfl) rfl ?_;exact⟨by rw[K.out.1,K.out.2],E.out⟩
     ·by_cases hb2:p≤x
      ·have K:Hid (ckC p xs=7∧ckA p xs=k):=ck_bad HP.out HL.out (by omega) HNO.out (by rw[HX.out];exact .inr hb2);have E:Hid (Below w.heap.size w ((wr.setCell ⟨b4,0,none⟩ (.int .i64 7)).setCell ⟨b4,1,none⟩ (.int .i64 k))):=FIN.out wr _ _ 7 k hF HB1.out;clear hF;go_wp2;refine bodyPost_ret (v:=Flt 7 k) (by simp[results,go_sem,loadVar,World.cell?_setCell_same,World.cell?_setCell_other, *];try rfl) rfl ?_;exact⟨by rw[K.out.1,K.out.2],E.out⟩
      ·have HNB:Hid (¬badN p x):=(by show ¬_;unfold badN;omega);clear hF;go_wp2;go_roundw
       case rel=>
        refine⟨k+1,by omega,by first|rfl|trivial,fun j hj=>?_,by first|rfl|trivial⟩;rcases Nat.lt_or_ge j k with h|h
        ·exact HNO.out j h
        ·obtain rfl:j=k:=(by omega);rw[HX.out];exact HNB.out
       case measure=>simp only[Lib.intOf];omega
    ·obtain rfl:k=n:=(by omega);have hki:¬(k:Int)<(k:Int):=(by omega);have hF:=HF.out;have HNN:Hid (∀j,j<xs.length→¬badN p (xs.getD j 0)):=fun j hj=>HNO.out j (by omega);by_cases h0:k=0
     ·have K:Hid (ckC p xs=0∧ckA p xs=0):=ck_ok HP.out HL.out HNN.out (fun h=>by omega);subst h0;have E:Hid (Below w.heap.size w ((wr.setCell ⟨b4,0,none⟩ (.int .i64 0)).setCell ⟨b4,1,none⟩ (.int .i64 0))):=FIN.out wr _ _ 0 0 hF HB1.out;clear hF;go_wp2;refine bodyPost_ret (v:=Flt 0 0) (by simp[results,go_sem,loadVar,World.cell?_setCell_same,World.cell?_setCell_other, *];try rfl) rfl ?_;exact⟨by rw[K.out.1,K.out.2],E.out⟩
     ·obtain⟨x,hx⟩:∃x,xs.getD (k-1) 0=x:=⟨_,rfl⟩;obtain rfl:=ha (by omega);have hcell:=HC.out (k-1) (by omega);rw[hx]at hcell;have hk1:1≤k:=(by omega);have HX:Hid (xs.getD (xs.length-1) 0=x):=(by rw[hn];exact hx);clear hx;by_cases hx0:x=0
      ·have K:Hid (ckC p xs=3∧ckA p xs=(k:Int)-1):=(by have:=ck_last HP.out HL.out HNN.out ⟨by omega,by rw[HX.out];exact hx0⟩;rw[hn]at this;exact this);have hxb:(x==0)=true:=(by simpa using hx0);clear hx0;have E:Hid (Below w.heap.size w ((wr.setCell ⟨b4,0,none⟩ (.int .i64 3)).setCell ⟨b4,1,none⟩ (.int .i64 ((k:Int)-1)))):=FIN.out wr _ _ 3 ((k:Int)-1) hF HB1.out;clear hF;go_wp2;refine bodyPost_ret (v:=Flt 3 ((k:Int)-1)) (by simp[results,go_sem,loadVar,World.cell?_setCell_same,World.cell?_setCell_other, *];try rfl) rfl ?_;exact⟨by rw[K.out.1,K.out.2],E.out⟩
      ·have K:Hid (ckC p xs=0∧ckA p xs=0):=ck_ok HP.out HL.out HNN.out (fun h=>hx0 (by rw[←HX.out];exact h.2));have hxb:(x==0)=false:=(by simpa using hx0);clear hx0;have E:Hid (Below w.heap.size w ((wr.setCell ⟨b4,0,none⟩ (.int .i64 0)).setCell ⟨b4,1,none⟩ (.int .i64 0))):=FIN.out wr _ _ 0 0 hF HB1.out;clear hF;go_wp2;refine bodyPost_ret (v:=Flt 0 0) (by simp[results,go_sem,loadVar,World.cell?_setCell_same,World.cell?_setCell_other, *];try rfl) rfl ?_;exact⟨by rw[K.out.1,K.out.2],E.out⟩
end Go.Proofs.YtffdemplaodbcaaDoor
