/-
  The places of numbers in an event, as the program tells them: proved by walking the functions.
-/
import Derived.Test.YthhkapcbocgcoaaGreatDoorGj21
import Derived.Laws.BitsAllLaws
import Derived.Laws.Bits64
import Derived.Lib.Zigzag
import Derived.RowKit
import Derived.Defers
import Derived.Recover
import Derived.Laws.Pointers
import Derived.Stop.Asserts
import Derived.LaidEql
import Derived.RowKitTokens
set_option linter.unusedVariables false
set_option maxHeartbeats 6400000
set_option maxRecDepth 100000
namespace Go.Proofs.YthhkapcbocgcoaaGreatDoor
open Go.RowKit
theorem plc1_any (g:Nat) (w:World):Calls Tryz.prog 136 #[I g 0] w fun e w'=>e = .returned (I g 1)∧w' = w:=by
 go_enter Tryz.func136,Tryz.ntmps136
 go_wp2
 go_ret
 exact ⟨rfl,rfl⟩
theorem plc2_any (g:Nat) (w:World):Calls Tryz.prog 127 #[I g 0] w fun e w'=>e = .returned (I g 2)∧w' = w:=by
 go_enter Tryz.func127,Tryz.ntmps127
 go_wp2
 go_ret
 exact ⟨rfl,rfl⟩
theorem plc3_any (g:Nat) (w:World):Calls Tryz.prog 128 #[I g 0] w fun e w'=>e = .returned (I g 3)∧w' = w:=by
 go_enter Tryz.func128,Tryz.ntmps128
 go_wp2
 go_ret
 exact ⟨rfl,rfl⟩
theorem plc4_any (g:Nat) (w:World):Calls Tryz.prog 129 #[I g 0] w fun e w'=>e = .returned (I g 4)∧w' = w:=by
 go_enter Tryz.func129,Tryz.ntmps129
 go_wp2
 go_ret
 exact ⟨rfl,rfl⟩
theorem plc5_any (g:Nat) (w:World):Calls Tryz.prog 130 #[I g 0] w fun e w'=>e = .returned (I g 5)∧w' = w:=by
 go_enter Tryz.func130,Tryz.ntmps130
 go_wp2
 go_ret
 exact ⟨rfl,rfl⟩
theorem plc6_any (g:Nat) (w:World):Calls Tryz.prog 137 #[I g 0] w fun e w'=>e = .returned (I g 6)∧w' = w:=by
 go_enter Tryz.func137,Tryz.ntmps137
 go_wp2
 go_ret
 exact ⟨rfl,rfl⟩
theorem plc9_any (g:Nat) (w:World):Calls Tryz.prog 135 #[I g 0] w fun e w'=>e = .returned (I g 9)∧w' = w:=by
 go_enter Tryz.func135,Tryz.ntmps135
 go_wp2
 go_ret
 exact ⟨rfl,rfl⟩
theorem plc10_any (g:Nat) (w:World):Calls Tryz.prog 139 #[I g 0] w fun e w'=>e = .returned (I g 10)∧w' = w:=by
 go_enter Tryz.func139,Tryz.ntmps139
 go_wp2
 go_ret
 exact ⟨rfl,rfl⟩
theorem plc11_any (g:Nat) (w:World):Calls Tryz.prog 140 #[I g 0] w fun e w'=>e = .returned (I g 11)∧w' = w:=by
 go_enter Tryz.func140,Tryz.ntmps140
 go_wp2
 go_ret
 exact ⟨rfl,rfl⟩
theorem plc12_any (g:Nat) (w:World):Calls Tryz.prog 141 #[I g 0] w fun e w'=>e = .returned (I g 12)∧w' = w:=by
 go_enter Tryz.func141,Tryz.ntmps141
 go_wp2
 go_ret
 exact ⟨rfl,rfl⟩
theorem plc13_any (g:Nat) (w:World):Calls Tryz.prog 138 #[I g 0] w fun e w'=>e = .returned (I g 13)∧w' = w:=by
 go_enter Tryz.func138,Tryz.ntmps138
 go_wp2
 go_ret
 exact ⟨rfl,rfl⟩
def plcO (o:Nat):Bool:=(1 ≤ o && o ≤ 6) || (9 ≤ o && o ≤ 13)
theorem plc_any (o g:Nat) (w:World) (h:plcO o = true):Calls Tryz.prog (plcV o) #[I g 0] w fun e w'=>e = .returned (I g o)∧w' = w:=by
 rcases (show o = 1 ∨ o = 2 ∨ o = 3 ∨ o = 4 ∨ o = 5 ∨ o = 6 ∨ o = 9 ∨ o = 10 ∨ o = 11 ∨ o = 12 ∨ o = 13 by simp [plcO] at h; omega) with rfl | rfl | rfl | rfl | rfl | rfl | rfl | rfl | rfl | rfl | rfl
 ·exact plc1_any g w
 ·exact plc2_any g w
 ·exact plc3_any g w
 ·exact plc4_any g w
 ·exact plc5_any g w
 ·exact plc6_any g w
 ·exact plc9_any g w
 ·exact plc10_any g w
 ·exact plc11_any g w
 ·exact plc12_any g w
 ·exact plc13_any g w
structure Rdr (B:Nat) (w:World) (v:Value) (k:Int):Prop where
 bytes:w.cell? ⟨B,0,none⟩ = some v
 place:w.cell? ⟨B,1,none⟩ = some (.int .i64 k)
 free:w.frozen? ⟨B,1,none⟩ = false
theorem Rdr.drewN {B:Nat} {w:World} {v:Value} {k:Int} (h:Rdr B w v k) (n:Nat):Rdr B (w.drewN n) v k:=⟨h.1,h.2,h.3⟩
theorem Rdr.step {B:Nat} {w:World} {v:Value} {k:Int} (h:Rdr B w v k) (m:Int):Rdr B (w.setCell ⟨B,1,none⟩ (H m)) v m :=
 ⟨by rw [yM _ _ _ _ (bZ (by omega))]; exact h.1,yN _ _ _ h.2,by rw [World.frozen?_setCell]; exact h.3⟩
def cX (c k:Int):List PanicEntry:=[{ v:=.iface 205 (.agg #[H c,H k]),recovered:=false }]
theorem et (B:Nat) (c k:Int) (v:Value) (w:World) (hr:Rdr B w v k) :
  Calls Tryz.prog 145 #[.pointer (some ⟨B,0,none⟩),H c] w fun e w'=>e = .panicked (cX c k)∧w' = w:=by
 have D:=hr.2
 clear hr
 go_enter Tryz.func145,Tryz.ntmps145
 go_wp2
 exact ⟨rfl,rfl,rfl⟩
theorem take_end (B:Nat) (c k:Int) (a:Option Addr) (len cap:Nat) (w:World) (hr:Rdr B w (.slice a len cap) k) (h0:0 ≤ k) (Q:k ≤ len) (hl:len ≤ 1073741824) (hc:(len:Int) - k < c) (js:c ≤ 1073741824) :
  Calls Tryz.prog 144 #[.pointer (some ⟨B,0,none⟩),H c] w fun e w'=>e = .panicked (cX 3 k)∧∃ q,w' = w.drewN q:=by
 have HR:=M hr
 obtain ⟨c1,c2,c3⟩:=hr
 go_enter Tryz.func144,Tryz.ntmps144
 go_wp2_with fail
 go_quiet (fail)
 go_wp2_with fail
 refine (et B 3 k _ _ ((U HR).drewN _)).mono ?_
 rintro e w1 ⟨rfl,rfl⟩
 go_wp2_with fail
 exact ⟨rfl,rfl,_,rfl⟩
theorem take_ok (B:Nat) (c k:Nat) (b off len cap:Nat) (w:World) (hr:Rdr B w (.slice (some ⟨b,off,none⟩) len cap) k) (Q:k + c ≤ len) (hl:len ≤ 1073741824) (uq:len ≤ cap) (js:1 ≤ c) :
  Calls Tryz.prog 144 #[.pointer (some ⟨B,0,none⟩),H c] w fun e w'=>e = .returned (.slice (some ⟨b,off + k,none⟩) c (cap - k))∧∃ q,w' = (w.setCell ⟨B,1,none⟩ (H (k + c:Nat))).drewN q:=by
 have HR:=M hr
 obtain ⟨c1,c2,c3⟩:=hr
 have aM:(k:Int) + c ≤ len:=by omega
 have og:¬ ((len:Int) - k < c):=by omega
 have h3':(k:Int) + c ≤ cap:=by omega
 have xC:¬ (cap = k):=by omega
 go_enter Tryz.func144,Tryz.ntmps144
 go_wp2_with fail
 go_quiet (fail)
 go_wp2_with fail
 go_quiet (fail)
 go_wp2_with fail
 go_ret
 refine ⟨by simp,_,by congr 3⟩
theorem check_ok (B:Nat) (k:Int) (a:Option Addr) (len cap:Nat) (w:World) (hr:Rdr B w (.slice a len cap) k) (h0:0 ≤ k) (Q:k ≤ len) (hl:len ≤ 65536) :
  Calls Tryz.prog 181 #[.pointer (some ⟨B,0,none⟩)] w fun e w'=>e = .returned (.tuple #[])∧∃ q,w' = w.drewN q:=by
 obtain ⟨c1,c2,c3⟩:=hr
 have hl':(len:Int) ≤ 65536:=by omega
 have hd:decide (k < 0) = false:=by simpa using h0
 go_enter Tryz.func181,Tryz.ntmps181
 go_wp2_with fail
 go_quiet (fail)
 go_wp2_with fail
 go_end0
 exact ⟨rfl,_,rfl⟩
theorem check_long (B:Nat) (k:Int) (a:Option Addr) (len cap:Nat) (w:World) (hr:Rdr B w (.slice a len cap) k) (hl:65536 < len) :
  Calls Tryz.prog 181 #[.pointer (some ⟨B,0,none⟩)] w fun e w'=>e = .panicked (cX 2 k)∧∃ q,w' = w.drewN q:=by
 have HR:=M hr
 obtain ⟨c1,c2,c3⟩:=hr
 have hl':(65536:Int) < len:=by omega
 go_enter Tryz.func181,Tryz.ntmps181
 go_wp2_with fail
 refine (et B 2 k _ _ (U HR)).mono ?_
 rintro e w1 ⟨rfl,rfl⟩
 go_wp2_with fail
 exact ⟨rfl,rfl,0,rfl⟩
theorem check_out (B:Nat) (k:Int) (a:Option Addr) (len cap:Nat) (w:World) (hr:Rdr B w (.slice a len cap) k) (h:k < 0 ∨ (len:Int) < k) (hl:len ≤ 65536) :
  Calls Tryz.prog 181 #[.pointer (some ⟨B,0,none⟩)] w fun e w'=>e = .panicked (cX 5 k)∧∃ q,w' = w.drewN q:=by
 have HR:=M hr
 obtain ⟨c1,c2,c3⟩:=hr
 have hl':(len:Int) ≤ 65536:=by omega
 rcases (show k < 0 ∨ (0 ≤ k∧(len:Int) < k) by omega) with h0 | ⟨h0,Q⟩
 ·have hd:decide (k < 0) = true:=by simpa using h0
  clear h
  go_enter Tryz.func181,Tryz.ntmps181
  go_wp2_with fail
  go_quiet (fail)
  go_wp2_with fail
  refine (et B 5 k _ _ ((U HR).drewN _)).mono ?_
  rintro e w1 ⟨rfl,rfl⟩
  go_wp2_with fail
  exact ⟨rfl,rfl,_,rfl⟩
 ·have hd:decide (k < 0) = false:=by simpa using h0
  clear h
  go_enter Tryz.func181,Tryz.ntmps181
  go_wp2_with fail
  go_quiet (fail)
  go_wp2_with fail
  refine (et B 5 k _ _ ((U HR).drewN _)).mono ?_
  rintro e w1 ⟨rfl,rfl⟩
  go_wp2_with fail
  exact ⟨rfl,rfl,_,rfl⟩
end Go.Proofs.YthhkapcbocgcoaaGreatDoor
namespace Go.Proofs.YthhkapcbocgcoaaGreatDoor
open Go
open Go.RowKit (wrap64)

def scan (l:List Int) (at_:Nat):Nat→Nat→Nat→Option (Nat × Nat)
 | 0,_,_=>none
 | f + 1,i,u =>
  if l.length ≤ at_ + i then none
  else if (i = 9∧1 < l.getD (at_ + i) 0) ∨ (0 < i∧l.getD (at_ + i) 0 = 0) then none
  else if l.getD (at_ + i) 0 < 128 then some (u + (l.getD (at_ + i) 0 % 128).toNat * 128 ^ i,at_ + i + 1)
  else scan l at_ f (i + 1) (u + (l.getD (at_ + i) 0 % 128).toNat * 128 ^ i)
def getU (l:List Int) (at_:Nat):Option (Nat × Nat):=scan l at_ 10 0 0
def unz (u:Nat):Int:=if u % 2 = 1 then -((u / 2:Nat):Int) - 1 else ((u / 2:Nat):Int)
theorem pow_le9 (i:Nat) (h:i ≤ 9):128 ^ i ≤ 9223372036854775808 :=
 yO (Nat.pow_le_pow_right (by omega) h) (by decide)
theorem pow_two (i:Nat):(2:Nat) ^ (7 * i) = 128 ^ i:=by rw [Nat.pow_mul]
theorem step_lt (c:Int) (i u:Nat) (hi:i ≤ 9) (hu:u < 128 ^ i) (kT:0 ≤ c) (js:c ≤ 255) (h9:i = 9→c ≤ 1) :
  u + (c % 128).toNat * 128 ^ i < 18446744073709551616∧u + (c % 128).toNat * 128 ^ i < 128 ^ (i + 1):=by
 have hp:=pow_le9 i hi
 have hm:(c % 128).toNat ≤ 127:=by omega
 constructor
 ·by_cases h:i = 9
  ·subst h
   have:=h9 rfl
   have hm1:(c % 128).toNat ≤ 1:=by omega
   have e9:(128:Nat) ^ 9 = 9223372036854775808:=by decide
   rw [e9] at *
   omega
  ·have h8:128 ^ i ≤ 72057594037927936:=yO (Nat.pow_le_pow_right (by omega) (show i ≤ 8 by omega)) (by decide)
   have:(c % 128).toNat * 128 ^ i ≤ 127 * 72057594037927936:=Nat.mul_le_mul hm h8
   omega
 ·rw [Nat.pow_succ]
  have:(c % 128).toNat * 128 ^ i ≤ 127 * 128 ^ i:=Nat.mul_le_mul_right _ hm
  omega
theorem and127b (c:Int) (h0:0 ≤ c) (Q:c ≤ 255):bits .and .u8 c 127 = c % 128:=by
 rw [u8_and _ _ (by omega) (by omega) (by omega) (by omega),show (127:Int).toNat = 127 from rfl]
 have e:c.toNat &&& 127 = c.toNat % 128:=Nat.and_two_pow_sub_one_eq_mod c.toNat 7
 rw [e]; omega
theorem or_step (c:Int) (i u:Nat) (hi:i ≤ 9) (hu:u < 128 ^ i) (kT:0 ≤ c) (js:c ≤ 255) (h9:i = 9→c ≤ 1) :
  bits .or .u64 (u:Int) (IntKind.u64.wrap (c % 128 * 2 ^ (7 * i))) = ((u + (c % 128).toNat * 128 ^ i:Nat):Int):=by
 have xM:=(step_lt c i u hi hu kT js h9).1
 have e2:c % 128 * 2 ^ (7 * i) = (((c % 128).toNat * 128 ^ i:Nat):Int):=by
  rw [← pow_two i]
  rw [Int.natCast_mul,Int.toNat_of_nonneg (by omega)]
  congr 1
 rw [e2,IntKind.wrap_u64,Int.emod_eq_of_lt (by omega) (by omega),u64_or_nat _ _ (by omega) (by omega),Nat.or_comm]
 rw [nat_join (7 * i) _ _ (by rw [pow_two]; exact Nat.mul_mod_left _ _) (by rw [pow_two]; exact hu),Nat.add_comm]
theorem and1 (u:Nat) (h:u < 18446744073709551616):bits .and .u64 (u:Int) 1 = ((u % 2:Nat):Int):=by
 have:=u64_and_nat u 1 h (by omega)
 rw [show ((1:Nat):Int) = 1 from rfl] at this
 rw [this,nat_mask1]
theorem xor_comm64 (x y:Int):bits .xor .i64 x y = bits .xor .i64 y x:=by
 unfold bits; simp only [BitVec.xor_comm]
theorem xor_zero64 (x:Nat) (h:x < 9223372036854775808):bits .xor .i64 (x:Int) 0 = x:=by
 have e:bits .xor .i64 (x:Int) 0 = IntKind.i64.wrap (((BitVec.ofInt 64 (x:Int)) ^^^ (0#64)).toNat:Nat):=rfl
 rw [e,BitVec.xor_zero,ofInt_u64 x (by omega)]
 simp [IntKind.wrap,IntKind.bits,IntKind.signed]
 omega
theorem wrap_small (x:Int) (h0:-9223372036854775808 ≤ x) (Q:x ≤ 9223372036854775807):wrap64 x = x:=by
 unfold wrap64; omega
theorem unfold_eq (u:Nat) (h:u < 18446744073709551616):bits .xor .i64 ((u:Int) / 2) (wrap64 (-wrap64 (bits .and .u64 (u:Int) 1))) = unz u:=by
 rw [and1 u h,wrap_small ((u % 2:Nat):Int) (by omega) (by omega),wrap_small _ (by omega) (by omega)]
 have e:(u:Int) / 2 = ((u / 2:Nat):Int):=by omega
 rw [e]
 unfold unz
 by_cases Q:u % 2 = 1
 ·rw [if_pos Q,Q,xor_comm64]
  exact Lib.i64_not _ (by omega)
 ·have h0:u % 2 = 0:=by omega
  rw [if_neg Q,h0]
  exact xor_zero64 _ (by omega)
end Go.Proofs.YthhkapcbocgcoaaGreatDoor
namespace Go.Proofs.YthhkapcbocgcoaaGreatDoor
open Go.RowKit
theorem unfold_any (u:Nat) (w:World) (Q:u < 18446744073709551616) :
  Calls Tryz.prog 197 #[.int .u64 u] w fun e w'=>e = .returned (H (unz u))∧w' = w:=by
 have h0:(0:Int) ≤ (u:Int):=by omega
 have D:(u:Int) ≤ 18446744073709551615:=by omega
 have HF:=M (unfold_eq u Q)
 clear Q
 go_enter Tryz.func197,Tryz.ntmps197
 go_wp2
 go_ret
 exact ⟨zw (U HF),rfl⟩
theorem scan_end (l:List Int) (k i u:Nat) (hi:i ≤ 9) (h:l.length ≤ k + i):scan l k (10 - i) i u = none:=by
 obtain ⟨f,hf⟩:∃ f,10 - i = f + 1:=⟨9 - i,by omega⟩
 rw [hf,scan,if_pos h]
theorem scan_bad (l:List Int) (k i u:Nat) (hi:i ≤ 9) (h:k + i < l.length) (A:(i = 9∧1 < l.getD (k + i) 0) ∨ (0 < i∧l.getD (k + i) 0 = 0)):scan l k (10 - i) i u = none:=by
 obtain ⟨f,hf⟩:∃ f,10 - i = f + 1:=⟨9 - i,by omega⟩
 rw [hf,scan,if_neg (by omega),if_pos A]
theorem scan_yes (l:List Int) (k i u:Nat) (hi:i ≤ 9) (h:k + i < l.length) (A:¬ ((i = 9∧1 < l.getD (k + i) 0) ∨ (0 < i∧l.getD (k + i) 0 = 0))) (hc:l.getD (k + i) 0 < 128) :
  scan l k (10 - i) i u = some (u + (l.getD (k + i) 0 % 128).toNat * 128 ^ i,k + i + 1):=by
 obtain ⟨f,hf⟩:∃ f,10 - i = f + 1:=⟨9 - i,by omega⟩
 rw [hf,scan,if_neg (by omega),if_neg A,if_pos hc]
theorem scan_next (l:List Int) (k i u:Nat) (hi:i ≤ 9) (h:k + i < l.length) (A:¬ ((i = 9∧1 < l.getD (k + i) 0) ∨ (0 < i∧l.getD (k + i) 0 = 0))) (hc:¬ l.getD (k + i) 0 < 128) :
  scan l k (10 - i) i u = scan l k (10 - (i + 1)) (i + 1) (u + (l.getD (k + i) 0 % 128).toNat * 128 ^ i):=by
 obtain ⟨f,hf⟩:∃ f,10 - i = f + 1:=⟨9 - i,by omega⟩
 rw [hf,scan,if_neg (by omega),if_neg A,if_neg hc,show 10 - (i + 1) = f by omega]
def NumEnd (B:Nat) (v:Value) (w:World) (r:Option (Nat × Nat)) (e:Ending) (w':World):Prop :=
 w.grownBy w' (some B)∧(∀ u next,r = some (u,next)→e = .returned (H (unz u))∧Rdr B w' v next)∧(r = none→∃ p,e = .panicked (cX 3 p))
theorem gp {B:Nat} {v:Value} {w w':World} {r:Option (Nat × Nat)} (hg:w.grownBy w' (some B)) (hr:r = none) (p:Int):NumEnd B v w r (.panicked (cX 3 p)) w' :=
 ⟨hg,(fun _ _ h=>by rw [hr] at h; cases h),fun _=>⟨p,rfl⟩⟩
theorem numEnd_done {B:Nat} {v:Value} {w w':World} {r:Option (Nat × Nat)} {u n:Nat} (hg:w.grownBy w' (some B)) (hr:r = some (u,n)) (h:Rdr B w' v n):NumEnd B v w r (.returned (H (unz u))) w' :=
 ⟨hg,(fun a b h'=>by rw [hr] at h'; cases h'; exact ⟨rfl,h⟩),(fun h'=>by rw [hr] at h'; cases h')⟩
theorem number_some (B:Nat) (w:World) (b off cap k:Nat) (l:List Int) (hr:Rdr B w (.slice (some ⟨b,off,none⟩) l.length cap) k) (E:k ≤ l.length) (hl:l.length ≤ 65536) (uq:l.length ≤ cap) (bG:b ≠ B)
  (hc:∀ i,i < l.length→w.cell? ⟨b,off + i,none⟩ = some (.int .u8 (l.getD i 0))) (A:Bts l) :
  Calls Tryz.prog 175 #[.pointer (some ⟨B,0,none⟩)] w fun e w' =>
   NumEnd B (.slice (some ⟨b,off,none⟩) l.length cap) w (getU l k) e w':=by
 have HR:=M hr
 have HC:=M hc
 have HB:=M A
 clear hr hc A
 go_enter Tryz.func175,Tryz.ntmps175
 go_wp2_with fail
 go_loopw [3,4] (fun uv iv wr=>∃ i u:Nat,uv = .int .u64 u∧iv = H i∧i ≤ 9∧u < 128 ^ i∧scan l k (10 - i) i u = getU l k∧k + i ≤ l.length∧Rdr B wr (.slice (some ⟨b,off,none⟩) l.length cap) ((k + i:Nat):Int)∧w.grownBy wr (some B)) (fun _ iv _=>10 - (intOf iv).toNat)
 case atStart=>exact ⟨0,0,rfl,rfl,by omega,by decide,rfl,by omega,U HR,yS _ _⟩
 case round =>
  obtain ⟨i,u,rfl,rfl,hi,hu,hs,hki,xN,uZ⟩:=hrel
  have HS:=M hs
  have HU:=M hu
  have qh:=M xN
  have HGR:=M uZ
  clear hs hu xN uZ
  by_cases uU:k + i < l.length
  ·have hcx:=U HC (k + i) uU
   have qG:=bts_get (U HB) (k + i)
   have HE:=M (fun h=>scan_bad l k i u hi uU h)
   have HY:=M (fun Q D=>scan_yes l k i u hi uU Q D)
   have HN:=M (fun Q D=>scan_next l k i u hi uU Q D)
   generalize l.getD (k + i) 0 = c at *
   obtain ⟨kT,js⟩:=qG
   have hcr:=(U HGR).cell hcx (by simpa using bG)
   clear hcx
   go_wp2_with fail
   refine (take_ok B 1 (k + i) b off l.length cap _ (U qh) (by omega) (by omega) uq (by omega)).mono ?_
   rintro e w1 ⟨rfl,q,rfl⟩
   have pE:=M (((U qh).step ((k + i + 1:Nat):Int)).drewN q)
   have HGW:=M (zA (U HGR) (zA (ei wr ⟨B,1,none⟩ (H ((k + i + 1:Nat):Int))) (cS _ q _)))
   by_cases hbad:(i = 9∧1 < c) ∨ (0 < i∧c = 0)
   ·have ah:=M (U HE hbad)
    rcases (show (i = 9∧1 < c) ∨ (¬ (i = 9∧1 < c)∧0 < i∧c = 0) by omega) with ⟨rfl,D⟩ | ⟨X,h4,rfl⟩
    ·clear hbad
     go_wp2_with fail
     refine (et B 3 _ _ _ (U pE)).mono ?_
     rintro e w2 ⟨rfl,rfl⟩
     go_wp2_with fail
     exact ⟨rfl,gp (U HGW) ((U HS).symm.trans (U ah)) _⟩
    ·have h4':(0:Int) < i:=by omega
     have h5:((i:Int) == 9) = false ∨ ((i:Int) == 9) = true:=by cases ((i:Int) == 9) <;> simp
     clear hbad
     rcases h5 with h5 | h5
     all_goals
      go_wp2_with fail
      refine (et B 3 _ _ _ (U pE)).mono ?_
      rintro e w2 ⟨rfl,rfl⟩
      go_wp2_with fail
      exact ⟨rfl,gp (U HGW) ((U HS).symm.trans (U ah)) _⟩
   ·have h9:i = 9→c ≤ 1:=fun h=>by omega
    have hor:=or_step c i u hi (U HU) kT js h9
    have xM:=step_lt c i u hi (U HU) kT js h9
    have hand:=and127b c kT js
    have h7:7 * (i:Int) ≤ 63:=by omega
    have jB:(((i:Int) == 9) = false∧(i:Int) ≤ 0) ∨ (((i:Int) == 9) = false∧0 < (i:Int)∧(c == 0) = false) ∨ (((i:Int) == 9) = true∧0 < (i:Int)∧(c == 0) = false∧c ≤ 1):=by
     simp only [xe,beq_iff_eq]
     omega
    by_cases hc:c < 128
    ·have HYes:=M (U HY hbad hc)
     have HLt:=M xM.1
     clear hbad xM h9
     generalize u + (c % 128).toNat * 128 ^ i = u' at *
     rcases jB with ⟨Q,D⟩ | ⟨Q,D,X⟩ | ⟨Q,D,X,h4⟩
     all_goals
      go_wp2_with fail
      refine (unfold_any u' _ (U HLt)).mono ?_
      rintro e w2 ⟨rfl,rfl⟩
      go_wp2_with fail
      go_ret
      exact numEnd_done (U HGW) ((U HS).symm.trans (U HYes)) (U pE)
    ·have HNext:=M (U HN hbad (by omega))
     have HLt:=M xM.2
     have hi9:i ≤ 8:=by omega
     clear hbad xM h9
     generalize u + (c % 128).toNat * 128 ^ i = u' at *
     rcases jB with ⟨Q,D⟩ | ⟨Q,D,X⟩ | ⟨Q,D,X,h4⟩
     ·go_wp2_with fail
      go_roundw
      case rel=>exact ⟨i + 1,u',rfl,by go_num,by omega,U HLt,(U HNext).symm.trans (U HS),by omega,U pE,U HGW⟩
      case measure=>simp [intOf]; omega
     ·go_wp2_with fail
      go_roundw
      case rel=>exact ⟨i + 1,u',rfl,by go_num,by omega,U HLt,(U HNext).symm.trans (U HS),by omega,U pE,U HGW⟩
      case measure=>simp [intOf]; omega
     ·omega
  ·go_wp2_with fail
   refine (take_end B 1 ((k + i:Nat):Int) _ _ _ _ (U qh) (by omega) (by omega) (by omega) (by omega) (by omega)).mono ?_
   rintro e w1 ⟨rfl,q,rfl⟩
   go_wp2_with fail
   have vN:=(U HS).symm.trans (scan_end _ _ _ _ hi (by omega))
   exact ⟨rfl,gp (zA (U HGR) (cS _ _ _)) vN _⟩
def cK (c k:Int):Value:=.iface 205 (.agg #[H c,H k])
theorem ta_fault (c k:Int) (w:World):(Instr.typeAssert (.iface 205 (.agg #[H c,H k])) 20 169 true).run Tryz.prog w =
  .ok (.tuple #[.iface 205 (.agg #[H c,H k]),.bool true]) w:=by kernel_rfl
theorem ta_nil (w:World):(Instr.typeAssert .nilIface 20 169 true).run Tryz.prog w = .ok (.tuple #[.nilIface,.bool false]) w:=by kernel_rfl
theorem fF {B C:Nat} {w w':World} {v:Value} {k:Int} (h:Rdr B w v k) (A:Below C w w') (hB:B < C):Rdr B w' v k :=
 ⟨(A.cell (p:=⟨B,0,none⟩) hB).trans h.1,(A.cell (p:=⟨B,1,none⟩) hB).trans h.2,(A.frozen (p:=⟨B,1,none⟩) hB).trans h.3⟩
theorem rdr_grown {B g:Nat} {w w':World} {v:Value} {k:Int} (h:Rdr B w v k) (A:w.grownBy w' (some g)) (xC:B ≠ g):Rdr B w' v k:=by
 have xM:=yL w _ h.1
 have hblk:=A.block B xM (by simpa using xC)
 exact ⟨(yR (a:=⟨B,0,none⟩) hblk).trans h.1,(yR (a:=⟨B,1,none⟩) hblk).trans h.2,(World.frozen?_of_block (a:=⟨B,1,none⟩) hblk).trans h.3⟩
def CapOk (v:Value):Prop:=∀ a n c,v = .slice a n c→n ≤ c
theorem rdr_new (w:World) (v:Value) (k:Int):Rdr w.heap.size (w.alloc (.cells #[v,H k] 167)) v k :=
 ⟨by simp,by simp,by simp⟩
theorem capOk_own {B:Nat} {w:World} {v:Value} {l:List Int} (h:OwnT B w v l):CapOk v:=by
 obtain ⟨g,cap,xz,t,rfl,_,_,Q,_⟩:=h
 intro a n c e
 simp only [Value.slice.injEq] at e
 omega
end Go.Proofs.YthhkapcbocgcoaaGreatDoor
namespace Go.Proofs.YthhkapcbocgcoaaGreatDoor
open Go.RowKit Go.Extern.Stop Go.Stop Go.Extern
set_option linter.unusedVariables false

def hnd (t:Nat):Value:=.pointer (some ⟨2,t,none⟩)
theorem valueOfP (t:Addr) (w:World):(ReflectliteValue.unpack (.iface 207 (.pointer (some t)))).run Tryz.prog w
  = .ok (.agg #[.pointer (some ⟨2,207,none⟩),.pointer (some ⟨w.heap.size,0,none⟩),.int .u64 150]) (w.alloc (.cells #[.pointer (some t)] 207)):=by kernel_rfl
theorem typeP (a:Addr) (w:World):(ReflectliteValue.methodAny (ReflectliteValue.valueError "reflectlite.Value.Type" 0) (fun t _ _ _=>ReflectliteType.toType t) #[.agg #[.pointer (some ⟨2,207,none⟩),.pointer (some a),.int .u64 150]]).run Tryz.prog w
  = .ok (.iface 245 (.agg #[.pointer (some ⟨2,207,none⟩)])) w:=by kernel_rfl
theorem methodKind (h:Value) (w:World):(Go.method 390 245 (.agg #[h]) "Kind").run Tryz.prog w = .ok (228,h) w:=by kernel_rfl
theorem kindP (w:World):((ReflectliteType.abiMethod fun t=>(fun a:Nat=>Value.int IntKind.u8 (a:Int)) <$> Rtype.kind t) #[.pointer (some ⟨2,207,none⟩)]).run Tryz.prog w = .ok (.int .u8 22) w:=by kernel_rfl
theorem kindF (w:World):((ReflectliteType.abiMethod fun t=>(fun a:Nat=>Value.int IntKind.u8 (a:Int)) <$> Rtype.kind t) #[.pointer (some ⟨2,205,none⟩)]).run Tryz.prog w = .ok (.int .u8 25) w:=by kernel_rfl
theorem rlm (z:Sem Value) (f:TypeId→Addr→Nat→Nat→Sem Value) (v:Value) :
  ReflectliteValue.method z f #[v] = (do match ← ReflectliteValue.parts v with | none=>z | some (t,a,fl)=>f t a fl (fl % 32)):=rfl
theorem partsP (a:Addr) (w:World):(ReflectliteValue.parts (.agg #[.pointer (some ⟨2,207,none⟩),.pointer (some a),.int .u64 150])).run Tryz.prog w = .ok (some (207,a,150)) w:=by kernel_rfl
theorem isNilP (a p:Addr) (W:World) (ha:W.cell? a = some (.pointer (some p))) :
  (ReflectliteValue.method (ReflectliteValue.valueError "reflectlite.Value.IsNil" 0) ReflectliteValue.isNil #[.agg #[.pointer (some ⟨2,207,none⟩),.pointer (some a),.int .u64 150]]).run Tryz.prog W = .ok (.bool false) W:=by
 rw [rlm]
 simp only [Sem.run_bind,partsP,Result.andThen]
 simp [ReflectliteValue.isNil,loadVar,isAgg,underlying,Tryz.underlying207,ha,Result.andThen]
theorem methodElem (h:Value) (w:World):(Go.method 390 245 (.agg #[h]) "Elem").run Tryz.prog w = .ok (244,.agg #[h]) w:=by kernel_rfl
theorem methodImplements (h:Value) (w:World):(Go.method 390 245 (.agg #[h]) "Implements").run Tryz.prog w = .ok (245,.agg #[h]) w:=by kernel_rfl
theorem methodAssignableTo (h:Value) (w:World):(Go.method 390 245 (.agg #[h]) "AssignableTo").run Tryz.prog w = .ok (242,.agg #[h]) w:=by kernel_rfl
theorem elemP (w:World):(ReflectliteType.method ReflectliteType.elem #[.agg #[.pointer (some ⟨2,207,none⟩)]]).run Tryz.prog w = .ok (.iface 245 (.agg #[.pointer (some ⟨2,205,none⟩)])) w:=by kernel_rfl
theorem implementsF (w:World):(ReflectliteType.relation "Implements" ReflectliteType.implements_ #[.agg #[.pointer (some ⟨2,205,none⟩)],.iface 245 (.agg #[.pointer (some ⟨2,169,none⟩)])]).run Tryz.prog w = .ok (.bool true) w:=by kernel_rfl
theorem typeOfF (v:Value) (w:World):(ReflectliteType.typeOf #[.iface 205 v]).run Tryz.prog w = .ok (.iface 245 (.agg #[.pointer (some ⟨2,205,none⟩)])) w:=by kernel_rfl
theorem assignableF (w:World):(ReflectliteType.relation "AssignableTo" ReflectliteType.assignableTo #[.agg #[.pointer (some ⟨2,205,none⟩)],.iface 245 (.agg #[.pointer (some ⟨2,205,none⟩)])]).run Tryz.prog w = .ok (.bool true) w:=by kernel_rfl
theorem valueOfF (c k:Int) (w:World):(ReflectliteValue.unpack (.iface 205 (.agg #[H c,H k]))).run Tryz.prog w
  = .ok (.agg #[.pointer (some ⟨2,205,none⟩),.pointer (some ⟨w.heap.size,0,none⟩),.int .u64 153]) (w.alloc (.cells #[H c,H k] 205)):=by kernel_rfl
theorem elemOfP (w:World):(Rtype.elem? 207).run Tryz.prog w = .ok (some 205) w:=by kernel_rfl
theorem mkF (p:Addr) (w:World):(ReflectliteValue.mk 205 p ReflectliteValue.flagAddr).run Tryz.prog w = .ok (.agg #[.pointer (some ⟨2,205,none⟩),.pointer (some p),.int .u64 409]) w:=by kernel_rfl
theorem elemVP (a p:Addr) (W:World) (ha:W.cell? a = some (.pointer (some p))) :
  (ReflectliteValue.method (ReflectliteValue.valueError "reflectlite.Value.Elem" 0) ReflectliteValue.elem #[.agg #[.pointer (some ⟨2,207,none⟩),.pointer (some a),.int .u64 150]]).run Tryz.prog W
   = .ok (.agg #[.pointer (some ⟨2,205,none⟩),.pointer (some p),.int .u64 409]) W:=by
 rw [rlm]
 simp only [Sem.run_bind,partsP,Result.andThen]
 simp [ReflectliteValue.elem,loadVar,isAgg,underlying,Tryz.underlying207,ha,Result.andThen,elemOfP,mkF]
theorem partsFa (a:Addr) (w:World):(ReflectliteValue.parts (.agg #[.pointer (some ⟨2,205,none⟩),.pointer (some a),.int .u64 409])).run Tryz.prog w = .ok (some (205,a,409)) w:=by kernel_rfl
theorem partsF (a:Addr) (w:World):(ReflectliteValue.parts (.agg #[.pointer (some ⟨2,205,none⟩),.pointer (some a),.int .u64 153])).run Tryz.prog w = .ok (some (205,a,153)) w:=by kernel_rfl
theorem directF (w:World):(Rtype.directlyAssignable 205 205).run Tryz.prog w = .ok true w:=by kernel_rfl
end Go.Proofs.YthhkapcbocgcoaaGreatDoor
namespace Go.Proofs.YthhkapcbocgcoaaGreatDoor
open Go.RowKit Go.Extern.Stop Go.Stop Go.Extern
set_option linter.unusedVariables false

theorem load2 {P:Program} (V:Nat) (x y:Value) (W:World) (hv0:W.cell? ⟨V,0,none⟩ = some x) (hv1:W.cell? ⟨V,1,none⟩ = some y) :
  (loadCellsFrom ⟨V,0,none⟩ 0 2 #[]).run P W = .ok #[x,y] W:=by
 simp [loadCellsFrom,hv0,hv1,Addr.add,Result.andThen]
theorem store2 {P:Program} (hR:Nat) (c k:Int) (x0 x1:Value) (W:World)
  (hf0:W.cell? ⟨hR,0,none⟩ = some x0) (oR:W.cell? ⟨hR,1,none⟩ = some x1) (uD:W.frozen? ⟨hR,0,none⟩ = false) (uz:W.frozen? ⟨hR,1,none⟩ = false) :
  (storeCells ⟨hR,0,none⟩ [H c,H k]).run P W = .ok () ((W.setCell ⟨hR,0,none⟩ (H c)).setCell ⟨hR,1,none⟩ (H k)):=by
 have Q:(W.setCell ⟨hR,0,none⟩ (H c)).cell? ⟨hR,1,none⟩ = some x1:=by
  rw [yM _ _ _ _ (bZ (by omega))]; exact oR
 have D:(W.setCell ⟨hR,0,none⟩ (H c)).frozen? ⟨hR,1,none⟩ = false:=by rw [World.frozen?_setCell]; exact uz
 simp only [storeCells,Sem.run_bind,Addr.add]
 rw [run_store P W _ _ _ (by rfl)]
 simp [hf0,uD,Result.andThen]
 rw [run_store P _ _ _ _ (by rfl)]
 simp [Q,D]
theorem set_two {α:Type} (f:Value→Value→α) (g:Array Value→α) (v x:Value) :
  ReflectliteValue.set.match_3 (fun _=>α) #[v,x] f g = f v x:=rfl
theorem setF (hR V:Nat) (c k:Int) (x0 x1:Value) (W:World) (hv0:W.cell? ⟨V,0,none⟩ = some (H c)) (hv1:W.cell? ⟨V,1,none⟩ = some (H k))
  (hf0:W.cell? ⟨hR,0,none⟩ = some x0) (oR:W.cell? ⟨hR,1,none⟩ = some x1) (uD:W.frozen? ⟨hR,0,none⟩ = false) (uz:W.frozen? ⟨hR,1,none⟩ = false) :
  (ReflectliteValue.set #[.agg #[.pointer (some ⟨2,205,none⟩),.pointer (some ⟨hR,0,none⟩),.int .u64 409],.agg #[.pointer (some ⟨2,205,none⟩),.pointer (some ⟨V,0,none⟩),.int .u64 153]]).run Tryz.prog W
   = .ok (.tuple #[]) ((W.setCell ⟨hR,0,none⟩ (H c)).setCell ⟨hR,1,none⟩ (H k)):=by
 unfold ReflectliteValue.set
 rw [set_two]
 simp only [Sem.run_bind,partsFa,partsF,Result.andThen]
 simp [ReflectliteValue.flagAddr,loadVar,loadCells,Result.andThen,directF,storeVar,Value.cells]
 rw [load2 V _ _ W hv0 hv1]
 simp
 rw [store2 hR c k x0 x1 W hf0 oR uD uz]
end Go.Proofs.YthhkapcbocgcoaaGreatDoor
namespace Go.Proofs.YthhkapcbocgcoaaGreatDoor
open Go.RowKit Go.Extern.Stop Go.Stop Go.Extern
set_option linter.unusedVariables false

def ErrT (w:World):Prop:=w.cell? ⟨1,0,none⟩ = some (.iface 245 (.agg #[.pointer (some ⟨2,169,none⟩)]))
theorem zW {B:Nat} {w w':World} (h:ErrT w) (A:Below B w w') (hB:w.heap.size ≤ B):ErrT w' :=
 (A.cell (p:=⟨_,0,none⟩) (yK (yL w _ h) hB)).trans h
theorem as_hit (hR:Nat) (c k:Int) (x0 x1:Value) (w:World) (hg:ErrT w) (hf0:w.cell? ⟨hR,0,none⟩ = some x0) (oR:w.cell? ⟨hR,1,none⟩ = some x1)
  (uD:w.frozen? ⟨hR,0,none⟩ = false) (uz:w.frozen? ⟨hR,1,none⟩ = false) :
  Calls Tryz.prog 182 #[.iface 205 (.agg #[H c,H k]),.iface 207 (.pointer (some ⟨hR,0,none⟩))] w fun ev w'=>ev = .returned (.bool true) ∧
   w' = (((((w.alloc (.cells #[.pointer (some ⟨hR,0,none⟩)] 207)).alloc (.cells #[.pointer (some ⟨2,207,none⟩),.pointer (some ⟨w.heap.size,0,none⟩),.int .u64 150] 232)).alloc
    (.cells #[.pointer (some ⟨2,207,none⟩),.pointer (some ⟨w.heap.size,0,none⟩),.int .u64 150] 232)).alloc (.cells #[H c,H k] 205)).setCell ⟨hR,0,none⟩ (H c)).setCell ⟨hR,1,none⟩ (H k):=by
 have e1:=@run_callFunc_extern Tryz.prog 199 _ (fun args=>ReflectliteValue.unpack (args.getD 0 (.tuple #[]))) Tryz.func199 (by kernel_rfl) (by kernel_rfl) (by kernel_rfl) (by kernel_rfl)
 have e2:=@run_callFunc_extern Tryz.prog 200 _ (ReflectliteValue.methodAny (ReflectliteValue.valueError "reflectlite.Value.Type" 0) (fun t _ _ _=>ReflectliteType.toType t)) Tryz.func200 (by kernel_rfl) (by kernel_rfl) (by kernel_rfl) (by kernel_rfl)
 have e3:=@run_callFunc_extern Tryz.prog 201 _ (ReflectliteValue.method (ReflectliteValue.valueError "reflectlite.Value.IsNil" 0) ReflectliteValue.isNil) Tryz.func201 (by kernel_rfl) (by kernel_rfl) (by kernel_rfl) (by kernel_rfl)
 have e4:=@run_callFunc_extern Tryz.prog 228 _ (ReflectliteType.abiMethod fun t=>do pure (.int .u8 (← Rtype.kind t))) Tryz.func228 (by kernel_rfl) (by kernel_rfl) (by kernel_rfl) (by kernel_rfl)
 have e5:=@run_callFunc_extern Tryz.prog 244 _ (ReflectliteType.method ReflectliteType.elem) Tryz.func244 (by kernel_rfl) (by kernel_rfl) (by kernel_rfl) (by kernel_rfl)
 have e6:=@run_callFunc_extern Tryz.prog 245 _ (ReflectliteType.relation "Implements" ReflectliteType.implements_) Tryz.func245 (by kernel_rfl) (by kernel_rfl) (by kernel_rfl) (by kernel_rfl)
 have e7:=@run_callFunc_extern Tryz.prog 207 _ ReflectliteType.typeOf Tryz.func207 (by kernel_rfl) (by kernel_rfl) (by kernel_rfl) (by kernel_rfl)
 have e8:=@run_callFunc_extern Tryz.prog 242 _ (ReflectliteType.relation "AssignableTo" ReflectliteType.assignableTo) Tryz.func242 (by kernel_rfl) (by kernel_rfl) (by kernel_rfl) (by kernel_rfl)
 have e9:=@run_callFunc_extern Tryz.prog 208 _ (ReflectliteValue.method (ReflectliteValue.valueError "reflectlite.Value.Elem" 0) ReflectliteValue.elem) Tryz.func208 (by kernel_rfl) (by kernel_rfl) (by kernel_rfl) (by kernel_rfl)
 have vy:=@run_callFunc_extern Tryz.prog 209 _ ReflectliteValue.set Tryz.func209 (by kernel_rfl) (by kernel_rfl) (by kernel_rfl) (by kernel_rfl)
 have tO:=typeOfF
 have mA:=methodAssignableTo
 have aF:=assignableF
 have vF:=valueOfF
 have vP:=valueOfP
 have tP:=typeP
 have mK:=methodKind
 have mE:=methodElem
 have mI:=methodImplements
 have kP:=kindP
 have kF:=kindF
 have lP:=elemP
 have iF:=implementsF
 have bE:hR < w.heap.size:=yL w _ hf0
 have hEl:1 < w.heap.size:=yL w _ hg
 have n8:=isNilP ⟨w.heap.size,0,none⟩ ⟨hR,0,none⟩ ((w.alloc (.cells #[.pointer (some ⟨hR,0,none⟩)] 207)).alloc (.cells #[.pointer (some ⟨2,207,none⟩),.pointer (some ⟨w.heap.size,0,none⟩),.int .u64 150] 232)) (by simp)
 have vh:((w.alloc (.cells #[.pointer (some ⟨hR,0,none⟩)] 207)).alloc (.cells #[.pointer (some ⟨2,207,none⟩),.pointer (some ⟨w.heap.size,0,none⟩),.int .u64 150] 232)).cell? ⟨1,0,none⟩ = some (.iface 245 (.agg #[.pointer (some ⟨2,169,none⟩)])):=by
  rw [yW _ _ ⟨1,0,none⟩ (by simp; omega),yW _ _ ⟨1,0,none⟩ hEl]; exact hg
 have el:=elemVP ⟨w.heap.size,0,none⟩ ⟨hR,0,none⟩ (((w.alloc (.cells #[.pointer (some ⟨hR,0,none⟩)] 207)).alloc (.cells #[.pointer (some ⟨2,207,none⟩),.pointer (some ⟨w.heap.size,0,none⟩),.int .u64 150] 232)).alloc (.cells #[.pointer (some ⟨2,207,none⟩),.pointer (some ⟨w.heap.size,0,none⟩),.int .u64 150] 232)) (by rw [yW _ _ ⟨w.heap.size,0,none⟩ (by simp; omega)]; simp)
 have st:=setF hR (w.heap.size + 1 + 1 + 1) c k x0 x1 ((((w.alloc (.cells #[.pointer (some ⟨hR,0,none⟩)] 207)).alloc (.cells #[.pointer (some ⟨2,207,none⟩),.pointer (some ⟨w.heap.size,0,none⟩),.int .u64 150] 232)).alloc (.cells #[.pointer (some ⟨2,207,none⟩),.pointer (some ⟨w.heap.size,0,none⟩),.int .u64 150] 232)).alloc (.cells #[H c,H k] 205))
  (by rw [World.cell?_alloc_at _ _ _ _ (by simp)]; rfl) (by rw [World.cell?_alloc_at _ _ _ _ (by simp)]; rfl)
  (by rw [yW _ _ ⟨hR,0,none⟩ (by simp; omega),yW _ _ ⟨hR,0,none⟩ (by simp; omega),yW _ _ ⟨hR,0,none⟩ (by simp; omega),yW _ _ ⟨hR,0,none⟩ bE]; exact hf0)
  (by rw [yW _ _ ⟨hR,1,none⟩ (by simp; omega),yW _ _ ⟨hR,1,none⟩ (by simp; omega),yW _ _ ⟨hR,1,none⟩ (by simp; omega),yW _ _ ⟨hR,1,none⟩ bE]; exact oR)
  (by rw [World.frozen?_alloc_old _ _ ⟨hR,0,none⟩ (by simp; omega),World.frozen?_alloc_old _ _ ⟨hR,0,none⟩ (by simp; omega),World.frozen?_alloc_old _ _ ⟨hR,0,none⟩ (by simp; omega),World.frozen?_alloc_old _ _ ⟨hR,0,none⟩ (Nat.ne_of_lt bE)]; exact uD)
  (by rw [World.frozen?_alloc_old _ _ ⟨hR,1,none⟩ (by simp; omega),World.frozen?_alloc_old _ _ ⟨hR,1,none⟩ (by simp; omega),World.frozen?_alloc_old _ _ ⟨hR,1,none⟩ (by simp; omega),World.frozen?_alloc_old _ _ ⟨hR,1,none⟩ (Nat.ne_of_lt bE)]; exact uz)
 clear hf0 oR uD uz hg
 go_enter Tryz.func182,Tryz.ntmps182
 go_wp2
 refine wp_loop_rounds 1 ?_
 rw [rounds_succ]
 go_wp2
 go_ret
 exact ⟨rfl,rfl⟩
end Go.Proofs.YthhkapcbocgcoaaGreatDoor
namespace Go.Proofs.YthhkapcbocgcoaaGreatDoor
open Go.RowKit
theorem codeOf_any (c k:Int) (w:World) (hg:ErrT w) :
  Calls Tryz.prog 143 #[cK c k] w fun e w'=>e = .returned (H c)∧yn w w':=by
 have HG:=M (zW hg ((Below.refl _ w).alloc hU (.cells #[H 0,H 0] 205)) hU)
 clear hg
 unfold cK
 go_enter Tryz.func143,Tryz.ntmps143
 go_wp2_with fail
 refine (as_hit w.heap.size c k (H 0) (H 0) _ (U HG) (by simp) (by simp) (by simp) (by simp)).mono ?_
 rintro e w1 ⟨rfl,kW⟩
 have kT:w1.cell? ⟨w.heap.size,0,none⟩ = some (H c):=by
  rw [kW,yM _ _ _ _ (bZ (by omega))]
  refine yN _ _ _ (u:=H 0) ?_
  rw [yW _ _ ⟨w.heap.size,0,none⟩ (by simp; omega),yW _ _ ⟨w.heap.size,0,none⟩ (by simp; omega),yW _ _ ⟨w.heap.size,0,none⟩ (by simp; omega),yW _ _ ⟨w.heap.size,0,none⟩ (by simp)]
  simp
 have A:Hid (yn w w1):=by
  rw [kW]
  exact ((((((Below.refl _ w).alloc hU _).alloc (by simp) _).alloc (by simp; omega) _).alloc (by simp; omega) _).alloc (by simp; omega) _ |>.setCell (p:=⟨w.heap.size,0,none⟩) hU _).setCell (p:=⟨w.heap.size,1,none⟩) hU _
 clear kW
 go_wp2_with fail
 go_ret
 exact ⟨rfl,U A⟩
theorem number_empty (B:Nat) (w:World) (a:Option Addr) (cap:Nat) (hr:Rdr B w (.slice a 0 cap) 0) :
  Calls Tryz.prog 175 #[.pointer (some ⟨B,0,none⟩)] w fun e w'=>NumEnd B (.slice a 0 cap) w none e w':=by
 go_enter Tryz.func175,Tryz.ntmps175
 go_wp2_with fail
 refine wp_loop_rounds 1 ?_
 rw [rounds_succ]
 go_wp2_with fail
 refine (take_end B 1 0 a 0 cap _ hr (by omega) (by omega) (by omega) (by omega) (by omega)).mono ?_
 rintro e w1 ⟨rfl,q,rfl⟩
 go_wp2_with fail
 exact ⟨rfl,gp (cS _ _ _) rfl _⟩
theorem number_any (B:Nat) (v:Value) (l:List Int) (k:Nat) (w w0:World) (xN:Rd w v l) (uq:∀ a n c,v = .slice a n c→n ≤ c) (jU:w.heap.size ≤ B) (xi:yn w w0) (hr:Rdr B w0 v k) (E:k ≤ l.length) (hl:l.length ≤ 65536) (A:Bts l) :
  Calls Tryz.prog 175 #[.pointer (some ⟨B,0,none⟩)] w0 fun e w'=>NumEnd B v w0 (getU l k) e w':=by
 have hrd0:=rd_below xN xi hU
 obtain ⟨a,cap,rfl,_,hc⟩:=hrd0
 obtain ⟨a',jJ,e',_,hc'⟩:=xN
 by_cases xC:l = []
 ·subst xC
  obtain rfl:k = 0:=by simpa using E
  have:getU [] 0 = none:=rfl
  rw [this]
  exact number_empty B w0 a cap hr
 ·obtain ⟨b,off,rfl,xr⟩:=hc xC
  have xM:b < w.heap.size:=by
   simp only [Value.slice.injEq] at e'
   obtain ⟨rfl,_,rfl⟩:=e'
   obtain ⟨b2,o2,e2,oE⟩:=hc' xC
   simp only [Option.some.injEq,Addr.mk.injEq] at e2
   obtain ⟨rfl,rfl,_⟩:=e2
   have hp:0 < l.length:=List.length_pos_iff.2 xC
   exact yL w _ (oE 0 hp)
  exact number_some B w0 b off cap k l hr E hl (uq _ _ _ rfl) (by omega) xr A
end Go.Proofs.YthhkapcbocgcoaaGreatDoor
