/-.-/
import Derived.Test.YthhkapcbocgcoaaGreatDoorKj07
import Derived.Test.YthhkapcbocgcoaaGreatDoorKj13
set_option linter.unusedVariables false
set_option maxHeartbeats 6400000
set_option maxRecDepth 100000
namespace Go.Proofs.YthhkapcbocgcoaaGreatDoor
open Go
theorem unz_zz (n:Int):unz (zz n)=n:=by
 unfold unz zz
 by_cases h:n<0
 ·rw[if_pos h,if_pos (by omega)];omega
 ·rw[if_neg h,if_neg (by omega)];omega
theorem drop_head {l r:List Int}{k:Nat}{c:Int}(h:l.drop k=c::r):k<l.length/\l.getD k 0=c/\l.drop (k+1)=r:=by
 have hk:k<l.length:=by
  rcases Nat.lt_or_ge k l.length with D|D
  ·exact D
  ·rw[List.drop_eq_nil_of_le D] at h;cases h
 rw[xd hk] at h;injection h with D Y;exact⟨hk,by simp[hk,D],Y⟩
theorem putU_bts:∀(u:Nat),∀x∈putU u,0<=x/\x<=255:=by
 intro u
 induction u using Nat.strongRecOn with
 | _ u ih =>
  by_cases hu:u<128
  ·rw[iY hu];intro x hx;simp at hx;omega
  ·rw[lI hu];intro x hx;rcases List.mem_cons.1 hx with rfl|hx
   ·omega
   ·exact ih (u / 128) (by omega) x hx
end Go.Proofs.YthhkapcbocgcoaaGreatDoor
