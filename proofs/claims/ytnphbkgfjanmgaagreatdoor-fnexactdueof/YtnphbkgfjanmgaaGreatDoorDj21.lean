/-
  A number read from bytes, as a plain function on lists, and what the program's bit operations make of it: plain facts, no program.
-/
import Derived.Test.YtnphbkgfjanmgaaGreatDoorDj20
import Derived.Laws.BitsAllLaws
import Derived.Laws.Bits64
import Derived.Lib.Zigzag
import Derived.RowKit
import Derived.Defers
import Derived.Recover
import Derived.Laws.Pointers
import Derived.Stop.Asserts
import Derived.LaidEql
import Derived.RowKitTokens
import Derived.Laws.BytesString
set_option linter.unusedVariables false
set_option maxHeartbeats 6400000
set_option maxRecDepth 100000
namespace Go.Proofs.YtnphbkgfjanmgaaGreatDoor
open Go
open Go.RowKit (wrap64)

def scan (l:List Int) (at_:Nat):Nat→Nat→Nat→Option (Nat × Nat)
 | 0,_,_=>none
 | f + 1,i,u =>
  if l.length ≤ at_ + i then none
  else if (i = 9∧1 < l.getD (at_ + i) 0) ∨ (0 < i∧l.getD (at_ + i) 0 = 0) then none
  else if l.getD (at_ + i) 0 < 128 then some (u + (l.getD (at_ + i) 0 % 128).toNat * 128 ^ i,at_ + i + 1)
  else scan l at_ f (i + 1) (u + (l.getD (at_ + i) 0 % 128).toNat * 128 ^ i)
def getU (l:List Int) (at_:Nat):Option (Nat × Nat):=scan l at_ 10 0 0
def unz (u:Nat):Int:=if u % 2 = 1 then -((u / 2:Nat):Int) - 1 else ((u / 2:Nat):Int)
theorem pow_le9 (i:Nat) (h:i ≤ 9):128 ^ i ≤ 9223372036854775808 :=
 yO (Nat.pow_le_pow_right (by omega) h) (by decide)
theorem pow_two (i:Nat):(2:Nat) ^ (7 * i) = 128 ^ i:=by rw [Nat.pow_mul]
theorem step_lt (c:Int) (i u:Nat) (hi:i ≤ 9) (hu:u < 128 ^ i) (kB:0 ≤ c) (jn:c ≤ 255) (h9:i = 9→c ≤ 1) :
  u + (c % 128).toNat * 128 ^ i < 18446744073709551616∧u + (c % 128).toNat * 128 ^ i < 128 ^ (i + 1):=by
 have hp:=pow_le9 i hi
 have hm:(c % 128).toNat ≤ 127:=by omega
 constructor
 ·by_cases h:i = 9
  ·subst h
   have:=h9 rfl
   have pV:(c % 128).toNat ≤ 1:=by omega
   have e9:(128:Nat) ^ 9 = 9223372036854775808:=by decide
   rw [e9] at *
   omega
  ·have h8:128 ^ i ≤ 72057594037927936:=yO (Nat.pow_le_pow_right (by omega) (show i ≤ 8 by omega)) (by decide)
   have:(c % 128).toNat * 128 ^ i ≤ 127 * 72057594037927936:=Nat.mul_le_mul hm h8
   omega
 ·rw [Nat.pow_succ]
  have:(c % 128).toNat * 128 ^ i ≤ 127 * 128 ^ i:=Nat.mul_le_mul_right _ hm
  omega
theorem and127b (c:Int) (h0:0 ≤ c) (N:c ≤ 255):bits .and .u8 c 127 = c % 128:=by
 rw [u8_and _ _ (by omega) (by omega) (by omega) (by omega),show (127:Int).toNat = 127 from rfl]
 have e:c.toNat &&& 127 = c.toNat % 128:=Nat.and_two_pow_sub_one_eq_mod c.toNat 7
 rw [e]; omega
theorem or_step (c:Int) (i u:Nat) (hi:i ≤ 9) (hu:u < 128 ^ i) (kB:0 ≤ c) (jn:c ≤ 255) (h9:i = 9→c ≤ 1) :
  bits .or .u64 (u:Int) (IntKind.u64.wrap (c % 128 * 2 ^ (7 * i))) = ((u + (c % 128).toNat * 128 ^ i:Nat):Int):=by
 have xJ:=(step_lt c i u hi hu kB jn h9).1
 have e2:c % 128 * 2 ^ (7 * i) = (((c % 128).toNat * 128 ^ i:Nat):Int):=by
  rw [← pow_two i]
  rw [Int.natCast_mul,Int.toNat_of_nonneg (by omega)]
  congr 1
 rw [e2,IntKind.wrap_u64,Int.emod_eq_of_lt (by omega) (by omega),u64_or_nat _ _ (by omega) (by omega),Nat.or_comm]
 rw [nat_join (7 * i) _ _ (by rw [pow_two]; exact Nat.mul_mod_left _ _) (by rw [pow_two]; exact hu),Nat.add_comm]
theorem and1 (u:Nat) (h:u < 18446744073709551616):bits .and .u64 (u:Int) 1 = ((u % 2:Nat):Int):=by
 have:=u64_and_nat u 1 h (by omega)
 rw [show ((1:Nat):Int) = 1 from rfl] at this
 rw [this,nat_mask1]
theorem xor_comm64 (x y:Int):bits .xor .i64 x y = bits .xor .i64 y x:=by
 unfold bits; simp only [BitVec.xor_comm]
theorem xor_zero64 (x:Nat) (h:x < 9223372036854775808):bits .xor .i64 (x:Int) 0 = x:=by
 have e:bits .xor .i64 (x:Int) 0 = IntKind.i64.wrap (((BitVec.ofInt 64 (x:Int)) ^^^ (0#64)).toNat:Nat):=rfl
 rw [e,BitVec.xor_zero,ofInt_u64 x (by omega)]
 simp [IntKind.wrap,IntKind.bits,IntKind.signed]
 omega
theorem wrap_small (x:Int) (h0:-9223372036854775808 ≤ x) (N:x ≤ 9223372036854775807):wrap64 x = x:=by
 unfold wrap64; omega
theorem unfold_eq (u:Nat) (h:u < 18446744073709551616):bits .xor .i64 ((u:Int) / 2) (wrap64 (-wrap64 (bits .and .u64 (u:Int) 1))) = unz u:=by
 rw [and1 u h,wrap_small ((u % 2:Nat):Int) (by omega) (by omega),wrap_small _ (by omega) (by omega)]
 have e:(u:Int) / 2 = ((u / 2:Nat):Int):=by omega
 rw [e]
 unfold unz
 by_cases N:u % 2 = 1
 ·rw [if_pos N,N,xor_comm64]
  exact Lib.i64_not _ (by omega)
 ·have h0:u % 2 = 0:=by omega
  rw [if_neg N,h0]
  exact xor_zero64 _ (by omega)
end Go.Proofs.YtnphbkgfjanmgaaGreatDoor
namespace Go.Proofs.YtnphbkgfjanmgaaGreatDoor
open Go.RowKit
theorem unfold_any (u:Nat) (w:World) (N:u < 18446744073709551616) :
  Calls Tryz.prog 204 #[.int .u64 u] w fun e w'=>e = .returned (I (unz u))∧w' = w:=by
 have h0:(0:Int) ≤ (u:Int):=by omega
 have Y:(u:Int) ≤ 18446744073709551615:=by omega
 have HF:=H (unfold_eq u N)
 clear N
 go_enter Tryz.func204,Tryz.ntmps204
 go_wp2
 go_ret
 exact ⟨zA (U HF),rfl⟩
theorem scan_end (l:List Int) (k i u:Nat) (hi:i ≤ 9) (h:l.length ≤ k + i):scan l k (10 - i) i u = none:=by
 obtain ⟨f,hf⟩:∃ f,10 - i = f + 1:=⟨9 - i,by omega⟩
 rw [hf,scan,if_pos h]
theorem scan_bad (l:List Int) (k i u:Nat) (hi:i ≤ 9) (h:k + i < l.length) (E:(i = 9∧1 < l.getD (k + i) 0) ∨ (0 < i∧l.getD (k + i) 0 = 0)):scan l k (10 - i) i u = none:=by
 obtain ⟨f,hf⟩:∃ f,10 - i = f + 1:=⟨9 - i,by omega⟩
 rw [hf,scan,if_neg (by omega),if_pos E]
theorem scan_yes (l:List Int) (k i u:Nat) (hi:i ≤ 9) (h:k + i < l.length) (E:¬ ((i = 9∧1 < l.getD (k + i) 0) ∨ (0 < i∧l.getD (k + i) 0 = 0))) (hc:l.getD (k + i) 0 < 128) :
  scan l k (10 - i) i u = some (u + (l.getD (k + i) 0 % 128).toNat * 128 ^ i,k + i + 1):=by
 obtain ⟨f,hf⟩:∃ f,10 - i = f + 1:=⟨9 - i,by omega⟩
 rw [hf,scan,if_neg (by omega),if_neg E,if_pos hc]
theorem scan_next (l:List Int) (k i u:Nat) (hi:i ≤ 9) (h:k + i < l.length) (E:¬ ((i = 9∧1 < l.getD (k + i) 0) ∨ (0 < i∧l.getD (k + i) 0 = 0))) (hc:¬ l.getD (k + i) 0 < 128) :
  scan l k (10 - i) i u = scan l k (10 - (i + 1)) (i + 1) (u + (l.getD (k + i) 0 % 128).toNat * 128 ^ i):=by
 obtain ⟨f,hf⟩:∃ f,10 - i = f + 1:=⟨9 - i,by omega⟩
 rw [hf,scan,if_neg (by omega),if_neg E,if_neg hc,show 10 - (i + 1) = f by omega]
def NumEnd (B:Nat) (v:Value) (w:World) (r:Option (Nat × Nat)) (e:Ending) (w':World):Prop :=
 w.grownBy w' (some B)∧(∀ u next,r = some (u,next)→e = .returned (I (unz u))∧Rdr B w' v next)∧(r = none→∃ p,e = .panicked (bI 3 p))
theorem ex {B:Nat} {v:Value} {w w':World} {r:Option (Nat × Nat)} (hg:w.grownBy w' (some B)) (hr:r = none) (p:Int):NumEnd B v w r (.panicked (bI 3 p)) w' :=
 ⟨hg,(fun _ _ h=>by rw [hr] at h; cases h),fun _=>⟨p,rfl⟩⟩
theorem numEnd_done {B:Nat} {v:Value} {w w':World} {r:Option (Nat × Nat)} {u n:Nat} (hg:w.grownBy w' (some B)) (hr:r = some (u,n)) (h:Rdr B w' v n):NumEnd B v w r (.returned (I (unz u))) w' :=
 ⟨hg,(fun a b h'=>by rw [hr] at h'; cases h'; exact ⟨rfl,h⟩),(fun h'=>by rw [hr] at h'; cases h')⟩
theorem number_some (B:Nat) (w:World) (b off cap k:Nat) (l:List Int) (hr:Rdr B w (.slice (some ⟨b,off,none⟩) l.length cap) k) (hk:k ≤ l.length) (hl:l.length ≤ 65536) (uq:l.length ≤ cap) (aB:b ≠ B)
  (hc:∀ i,i < l.length→w.cell? ⟨b,off + i,none⟩ = some (.int .u8 (l.getD i 0))) (E:Bts l) :
  Calls Tryz.prog 187 #[.pointer (some ⟨B,0,none⟩)] w fun e w' =>
   NumEnd B (.slice (some ⟨b,off,none⟩) l.length cap) w (getU l k) e w':=by
 have HR:=H hr
 have HC:=H hc
 have HB:=H E
 clear hr hc E
 go_enter Tryz.func187,Tryz.ntmps187
 go_wp2_with fail
 go_loopw [3,4] (fun uv iv wr=>∃ i u:Nat,uv = .int .u64 u∧iv = I i∧i ≤ 9∧u < 128 ^ i∧scan l k (10 - i) i u = getU l k∧k + i ≤ l.length∧Rdr B wr (.slice (some ⟨b,off,none⟩) l.length cap) ((k + i:Nat):Int)∧w.grownBy wr (some B)) (fun _ iv _=>10 - (intOf iv).toNat)
 case atStart=>exact ⟨0,0,rfl,rfl,by omega,by decide,rfl,by omega,U HR,yS _ _⟩
 case round =>
  obtain ⟨i,u,rfl,rfl,hi,hu,hs,hki,xO,vG⟩:=hrel
  have HS:=H hs
  have HU:=H hu
  have uN:=H xO
  have HGR:=H vG
  clear hs hu xO vG
  by_cases vk:k + i < l.length
  ·have hcx:=U HC (k + i) vk
   have kA:=bts_get (U HB) (k + i)
   have HE:=H (fun h=>scan_bad l k i u hi vk h)
   have HY:=H (fun N Y=>scan_yes l k i u hi vk N Y)
   have HN:=H (fun N Y=>scan_next l k i u hi vk N Y)
   generalize l.getD (k + i) 0 = c at *
   obtain ⟨kB,jn⟩:=kA
   have kC:=(U HGR).cell hcx (by simpa using aB)
   clear hcx
   go_wp2_with fail
   refine (take_ok B 1 (k + i) b off l.length cap _ (U uN) (by omega) (by omega) uq (by omega)).mono ?_
   rintro e w1 ⟨rfl,q,rfl⟩
   have HRW:=H (((U uN).step ((k + i + 1:Nat):Int)).drewN q)
   have HGW:=H (bm (U HGR) (bm (gr_set wr ⟨B,1,none⟩ (I ((k + i + 1:Nat):Int))) (bS _ q _)))
   by_cases hbad:(i = 9∧1 < c) ∨ (0 < i∧c = 0)
   ·have pD:=H (U HE hbad)
    rcases (show (i = 9∧1 < c) ∨ (¬ (i = 9∧1 < c)∧0 < i∧c = 0) by omega) with ⟨rfl,Y⟩ | ⟨h3,h4,rfl⟩
    ·clear hbad
     go_wp2_with fail
     refine (cH B 3 _ _ _ (U HRW)).mono ?_
     rintro e w2 ⟨rfl,rfl⟩
     go_wp2_with fail
     exact ⟨rfl,ex (U HGW) ((U HS).symm.trans (U pD)) _⟩
    ·have h4':(0:Int) < i:=by omega
     have h5:((i:Int) == 9) = false ∨ ((i:Int) == 9) = true:=by cases ((i:Int) == 9) <;> simp
     clear hbad
     rcases h5 with h5 | h5
     all_goals
      go_wp2_with fail
      refine (cH B 3 _ _ _ (U HRW)).mono ?_
      rintro e w2 ⟨rfl,rfl⟩
      go_wp2_with fail
      exact ⟨rfl,ex (U HGW) ((U HS).symm.trans (U pD)) _⟩
   ·have h9:i = 9→c ≤ 1:=fun h=>by omega
    have pX:=or_step c i u hi (U HU) kB jn h9
    have xJ:=step_lt c i u hi (U HU) kB jn h9
    have hand:=and127b c kB jn
    have h7:7 * (i:Int) ≤ 63:=by omega
    have qm:(((i:Int) == 9) = false∧(i:Int) ≤ 0) ∨ (((i:Int) == 9) = false∧0 < (i:Int)∧(c == 0) = false) ∨ (((i:Int) == 9) = true∧0 < (i:Int)∧(c == 0) = false∧c ≤ 1):=by
     simp only [xe,beq_iff_eq]
     omega
    by_cases hc:c < 128
    ·have HYes:=H (U HY hbad hc)
     have HLt:=H xJ.1
     clear hbad xJ h9
     generalize u + (c % 128).toNat * 128 ^ i = u' at *
     rcases qm with ⟨N,Y⟩ | ⟨N,Y,h3⟩ | ⟨N,Y,h3,h4⟩
     all_goals
      go_wp2_with fail
      refine (unfold_any u' _ (U HLt)).mono ?_
      rintro e w2 ⟨rfl,rfl⟩
      go_wp2_with fail
      go_ret
      exact numEnd_done (U HGW) ((U HS).symm.trans (U HYes)) (U HRW)
    ·have HNext:=H (U HN hbad (by omega))
     have HLt:=H xJ.2
     have hi9:i ≤ 8:=by omega
     clear hbad xJ h9
     generalize u + (c % 128).toNat * 128 ^ i = u' at *
     rcases qm with ⟨N,Y⟩ | ⟨N,Y,h3⟩ | ⟨N,Y,h3,h4⟩
     ·go_wp2_with fail
      go_roundw
      case rel=>exact ⟨i + 1,u',rfl,by go_num,by omega,U HLt,(U HNext).symm.trans (U HS),by omega,U HRW,U HGW⟩
      case measure=>simp [intOf]; omega
     ·go_wp2_with fail
      go_roundw
      case rel=>exact ⟨i + 1,u',rfl,by go_num,by omega,U HLt,(U HNext).symm.trans (U HS),by omega,U HRW,U HGW⟩
      case measure=>simp [intOf]; omega
     ·omega
  ·go_wp2_with fail
   refine (take_end B 1 ((k + i:Nat):Int) _ _ _ _ (U uN) (by omega) (by omega) (by omega) (by omega) (by omega)).mono ?_
   rintro e w1 ⟨rfl,q,rfl⟩
   go_wp2_with fail
   have hres:=(U HS).symm.trans (scan_end _ _ _ _ hi (by omega))
   exact ⟨rfl,ex (bm (U HGR) (bS _ _ _)) hres _⟩
def bB (c k:Int):Value:=.iface 224 (.agg #[I c,I k])
theorem ta_fault (c k:Int) (w:World):(Instr.typeAssert (.iface 224 (.agg #[I c,I k])) 20 184 true).run Tryz.prog w =
  .ok (.tuple #[.iface 224 (.agg #[I c,I k]),.bool true]) w:=by kernel_rfl
theorem ta_nil (w:World):(Instr.typeAssert .nilIface 20 184 true).run Tryz.prog w = .ok (.tuple #[.nilIface,.bool false]) w:=by kernel_rfl
theorem dO {B C:Nat} {w w':World} {v:Value} {k:Int} (h:Rdr B w v k) (E:Below C w w') (hB:B < C):Rdr B w' v k :=
 ⟨(E.cell (p:=⟨B,0,none⟩) hB).trans h.1,(E.cell (p:=⟨B,1,none⟩) hB).trans h.2,(E.frozen (p:=⟨B,1,none⟩) hB).trans h.3⟩
theorem rdr_grown {B g:Nat} {w w':World} {v:Value} {k:Int} (h:Rdr B w v k) (E:w.grownBy w' (some g)) (xD:B ≠ g):Rdr B w' v k:=by
 have xJ:=yL w _ h.1
 have kc:=E.block B xJ (by simpa using xD)
 exact ⟨(yR (a:=⟨B,0,none⟩) kc).trans h.1,(yR (a:=⟨B,1,none⟩) kc).trans h.2,(World.frozen?_of_block (a:=⟨B,1,none⟩) kc).trans h.3⟩
def CapOk (v:Value):Prop:=∀ a n c,v = .slice a n c→n ≤ c
theorem rdr_new (w:World) (v:Value) (k:Int):Rdr w.heap.size (w.alloc (.cells #[v,I k] 182)) v k :=
 ⟨by simp,by simp,by simp⟩
theorem capOk_own {B:Nat} {w:World} {v:Value} {l:List Int} (h:OwnT B w v l):CapOk v:=by
 obtain ⟨g,cap,xF,t,rfl,_,_,N,_⟩:=h
 intro a n c e
 simp only [Value.slice.injEq] at e
 omega
end Go.Proofs.YtnphbkgfjanmgaaGreatDoor
namespace Go.Proofs.YtnphbkgfjanmgaaGreatDoor
open Go.RowKit Go.Extern.Stop Go.Stop Go.Extern
set_option linter.unusedVariables false

def hnd (t:Nat):Value:=.pointer (some ⟨2,t,none⟩)
theorem valueOfP (t:Addr) (w:World):(ReflectliteValue.unpack (.iface 226 (.pointer (some t)))).run Tryz.prog w
  = .ok (.agg #[.pointer (some ⟨2,226,none⟩),.pointer (some ⟨w.heap.size,0,none⟩),.int .u64 150]) (w.alloc (.cells #[.pointer (some t)] 226)):=by kernel_rfl
theorem typeP (a:Addr) (w:World):(ReflectliteValue.methodAny (ReflectliteValue.valueError "reflectlite.Value.Type" 0) (fun t _ _ _=>ReflectliteType.toType t) #[.agg #[.pointer (some ⟨2,226,none⟩),.pointer (some a),.int .u64 150]]).run Tryz.prog w
  = .ok (.iface 257 (.agg #[.pointer (some ⟨2,226,none⟩)])) w:=by kernel_rfl
theorem methodKind (h:Value) (w:World):(Go.method 399 257 (.agg #[h]) "Kind").run Tryz.prog w = .ok (232,h) w:=by kernel_rfl
theorem kindP (w:World):((ReflectliteType.abiMethod fun t=>(fun a:Nat=>Value.int IntKind.u8 (a:Int)) <$> Rtype.kind t) #[.pointer (some ⟨2,226,none⟩)]).run Tryz.prog w = .ok (.int .u8 22) w:=by kernel_rfl
theorem kindF (w:World):((ReflectliteType.abiMethod fun t=>(fun a:Nat=>Value.int IntKind.u8 (a:Int)) <$> Rtype.kind t) #[.pointer (some ⟨2,224,none⟩)]).run Tryz.prog w = .ok (.int .u8 25) w:=by kernel_rfl
theorem rlm (z:Sem Value) (f:TypeId→Addr→Nat→Nat→Sem Value) (v:Value) :
  ReflectliteValue.method z f #[v] = (do match ← ReflectliteValue.parts v with | none=>z | some (t,a,fl)=>f t a fl (fl % 32)):=rfl
theorem partsP (a:Addr) (w:World):(ReflectliteValue.parts (.agg #[.pointer (some ⟨2,226,none⟩),.pointer (some a),.int .u64 150])).run Tryz.prog w = .ok (some (226,a,150)) w:=by kernel_rfl
theorem isNilP (a p:Addr) (W:World) (ha:W.cell? a = some (.pointer (some p))) :
  (ReflectliteValue.method (ReflectliteValue.valueError "reflectlite.Value.IsNil" 0) ReflectliteValue.isNil #[.agg #[.pointer (some ⟨2,226,none⟩),.pointer (some a),.int .u64 150]]).run Tryz.prog W = .ok (.bool false) W:=by
 rw [rlm]
 simp only [Sem.run_bind,partsP,Result.andThen]
 simp [ReflectliteValue.isNil,loadVar,isAgg,underlying,Tryz.underlying226,ha,Result.andThen]
theorem methodElem (h:Value) (w:World):(Go.method 399 257 (.agg #[h]) "Elem").run Tryz.prog w = .ok (248,.agg #[h]) w:=by kernel_rfl
theorem methodImplements (h:Value) (w:World):(Go.method 399 257 (.agg #[h]) "Implements").run Tryz.prog w = .ok (249,.agg #[h]) w:=by kernel_rfl
theorem methodAssignableTo (h:Value) (w:World):(Go.method 399 257 (.agg #[h]) "AssignableTo").run Tryz.prog w = .ok (246,.agg #[h]) w:=by kernel_rfl
theorem elemP (w:World):(ReflectliteType.method ReflectliteType.elem #[.agg #[.pointer (some ⟨2,226,none⟩)]]).run Tryz.prog w = .ok (.iface 257 (.agg #[.pointer (some ⟨2,224,none⟩)])) w:=by kernel_rfl
theorem implementsF (w:World):(ReflectliteType.relation "Implements" ReflectliteType.implements_ #[.agg #[.pointer (some ⟨2,224,none⟩)],.iface 257 (.agg #[.pointer (some ⟨2,184,none⟩)])]).run Tryz.prog w = .ok (.bool true) w:=by kernel_rfl
theorem typeOfF (v:Value) (w:World):(ReflectliteType.typeOf #[.iface 224 v]).run Tryz.prog w = .ok (.iface 257 (.agg #[.pointer (some ⟨2,224,none⟩)])) w:=by kernel_rfl
theorem assignableF (w:World):(ReflectliteType.relation "AssignableTo" ReflectliteType.assignableTo #[.agg #[.pointer (some ⟨2,224,none⟩)],.iface 257 (.agg #[.pointer (some ⟨2,224,none⟩)])]).run Tryz.prog w = .ok (.bool true) w:=by kernel_rfl
theorem valueOfF (c k:Int) (w:World):(ReflectliteValue.unpack (.iface 224 (.agg #[I c,I k]))).run Tryz.prog w
  = .ok (.agg #[.pointer (some ⟨2,224,none⟩),.pointer (some ⟨w.heap.size,0,none⟩),.int .u64 153]) (w.alloc (.cells #[I c,I k] 224)):=by kernel_rfl
theorem elemOfP (w:World):(Rtype.elem? 226).run Tryz.prog w = .ok (some 224) w:=by kernel_rfl
theorem mkF (p:Addr) (w:World):(ReflectliteValue.mk 224 p ReflectliteValue.flagAddr).run Tryz.prog w = .ok (.agg #[.pointer (some ⟨2,224,none⟩),.pointer (some p),.int .u64 409]) w:=by kernel_rfl
theorem elemVP (a p:Addr) (W:World) (ha:W.cell? a = some (.pointer (some p))) :
  (ReflectliteValue.method (ReflectliteValue.valueError "reflectlite.Value.Elem" 0) ReflectliteValue.elem #[.agg #[.pointer (some ⟨2,226,none⟩),.pointer (some a),.int .u64 150]]).run Tryz.prog W
   = .ok (.agg #[.pointer (some ⟨2,224,none⟩),.pointer (some p),.int .u64 409]) W:=by
 rw [rlm]
 simp only [Sem.run_bind,partsP,Result.andThen]
 simp [ReflectliteValue.elem,loadVar,isAgg,underlying,Tryz.underlying226,ha,Result.andThen,elemOfP,mkF]
theorem partsFa (a:Addr) (w:World):(ReflectliteValue.parts (.agg #[.pointer (some ⟨2,224,none⟩),.pointer (some a),.int .u64 409])).run Tryz.prog w = .ok (some (224,a,409)) w:=by kernel_rfl
theorem partsF (a:Addr) (w:World):(ReflectliteValue.parts (.agg #[.pointer (some ⟨2,224,none⟩),.pointer (some a),.int .u64 153])).run Tryz.prog w = .ok (some (224,a,153)) w:=by kernel_rfl
theorem directF (w:World):(Rtype.directlyAssignable 224 224).run Tryz.prog w = .ok true w:=by kernel_rfl
end Go.Proofs.YtnphbkgfjanmgaaGreatDoor
namespace Go.Proofs.YtnphbkgfjanmgaaGreatDoor
open Go.RowKit Go.Extern.Stop Go.Stop Go.Extern
set_option linter.unusedVariables false

theorem load2 {P:Program} (hj:Nat) (x y:Value) (W:World) (hv0:W.cell? ⟨hj,0,none⟩ = some x) (hv1:W.cell? ⟨hj,1,none⟩ = some y) :
  (loadCellsFrom ⟨hj,0,none⟩ 0 2 #[]).run P W = .ok #[x,y] W:=by
 simp [loadCellsFrom,hv0,hv1,Addr.add,Result.andThen]
theorem store2 {P:Program} (cl:Nat) (c k:Int) (x0 x1:Value) (W:World)
  (hf0:W.cell? ⟨cl,0,none⟩ = some x0) (oH:W.cell? ⟨cl,1,none⟩ = some x1) (uH:W.frozen? ⟨cl,0,none⟩ = false) (uI:W.frozen? ⟨cl,1,none⟩ = false) :
  (storeCells ⟨cl,0,none⟩ [I c,I k]).run P W = .ok () ((W.setCell ⟨cl,0,none⟩ (I c)).setCell ⟨cl,1,none⟩ (I k)):=by
 have N:(W.setCell ⟨cl,0,none⟩ (I c)).cell? ⟨cl,1,none⟩ = some x1:=by
  rw [yM _ _ _ _ (bY (by omega))]; exact oH
 have Y:(W.setCell ⟨cl,0,none⟩ (I c)).frozen? ⟨cl,1,none⟩ = false:=by rw [World.frozen?_setCell]; exact uI
 simp only [storeCells,Sem.run_bind,Addr.add]
 rw [run_store P W _ _ _ (by rfl)]
 simp [hf0,uH,Result.andThen]
 rw [run_store P _ _ _ _ (by rfl)]
 simp [N,Y]
theorem set_two {α:Type} (f:Value→Value→α) (g:Array Value→α) (v x:Value) :
  ReflectliteValue.set.match_3 (fun _=>α) #[v,x] f g = f v x:=rfl
theorem setF (cl hj:Nat) (c k:Int) (x0 x1:Value) (W:World) (hv0:W.cell? ⟨hj,0,none⟩ = some (I c)) (hv1:W.cell? ⟨hj,1,none⟩ = some (I k))
  (hf0:W.cell? ⟨cl,0,none⟩ = some x0) (oH:W.cell? ⟨cl,1,none⟩ = some x1) (uH:W.frozen? ⟨cl,0,none⟩ = false) (uI:W.frozen? ⟨cl,1,none⟩ = false) :
  (ReflectliteValue.set #[.agg #[.pointer (some ⟨2,224,none⟩),.pointer (some ⟨cl,0,none⟩),.int .u64 409],.agg #[.pointer (some ⟨2,224,none⟩),.pointer (some ⟨hj,0,none⟩),.int .u64 153]]).run Tryz.prog W
   = .ok (.tuple #[]) ((W.setCell ⟨cl,0,none⟩ (I c)).setCell ⟨cl,1,none⟩ (I k)):=by
 unfold ReflectliteValue.set
 rw [set_two]
 simp only [Sem.run_bind,partsFa,partsF,Result.andThen]
 simp [ReflectliteValue.flagAddr,loadVar,loadCells,Result.andThen,directF,storeVar,Value.cells]
 rw [load2 hj _ _ W hv0 hv1]
 simp
 rw [store2 cl c k x0 x1 W hf0 oH uH uI]
end Go.Proofs.YtnphbkgfjanmgaaGreatDoor
namespace Go.Proofs.YtnphbkgfjanmgaaGreatDoor
open Go.RowKit Go.Extern.Stop Go.Stop Go.Extern
set_option linter.unusedVariables false

def ErrT (w:World):Prop:=w.cell? ⟨1,0,none⟩ = some (.iface 257 (.agg #[.pointer (some ⟨2,184,none⟩)]))
theorem cy {B:Nat} {w w':World} (h:ErrT w) (E:Below B w w') (hB:w.heap.size ≤ B):ErrT w' :=
 (E.cell (p:=⟨_,0,none⟩) (yK (yL w _ h) hB)).trans h
theorem as_hit (cl:Nat) (c k:Int) (x0 x1:Value) (w:World) (hg:ErrT w) (hf0:w.cell? ⟨cl,0,none⟩ = some x0) (oH:w.cell? ⟨cl,1,none⟩ = some x1)
  (uH:w.frozen? ⟨cl,0,none⟩ = false) (uI:w.frozen? ⟨cl,1,none⟩ = false) :
  Calls Tryz.prog 194 #[.iface 224 (.agg #[I c,I k]),.iface 226 (.pointer (some ⟨cl,0,none⟩))] w fun ev w'=>ev = .returned (.bool true) ∧
   w' = (((((w.alloc (.cells #[.pointer (some ⟨cl,0,none⟩)] 226)).alloc (.cells #[.pointer (some ⟨2,226,none⟩),.pointer (some ⟨w.heap.size,0,none⟩),.int .u64 150] 242)).alloc
    (.cells #[.pointer (some ⟨2,226,none⟩),.pointer (some ⟨w.heap.size,0,none⟩),.int .u64 150] 242)).alloc (.cells #[I c,I k] 224)).setCell ⟨cl,0,none⟩ (I c)).setCell ⟨cl,1,none⟩ (I k):=by
 have e1:=@run_callFunc_extern Tryz.prog 207 _ (fun args=>ReflectliteValue.unpack (args.getD 0 (.tuple #[]))) Tryz.func207 (by kernel_rfl) (by kernel_rfl) (by kernel_rfl) (by kernel_rfl)
 have e2:=@run_callFunc_extern Tryz.prog 208 _ (ReflectliteValue.methodAny (ReflectliteValue.valueError "reflectlite.Value.Type" 0) (fun t _ _ _=>ReflectliteType.toType t)) Tryz.func208 (by kernel_rfl) (by kernel_rfl) (by kernel_rfl) (by kernel_rfl)
 have e3:=@run_callFunc_extern Tryz.prog 209 _ (ReflectliteValue.method (ReflectliteValue.valueError "reflectlite.Value.IsNil" 0) ReflectliteValue.isNil) Tryz.func209 (by kernel_rfl) (by kernel_rfl) (by kernel_rfl) (by kernel_rfl)
 have e4:=@run_callFunc_extern Tryz.prog 232 _ (ReflectliteType.abiMethod fun t=>do pure (.int .u8 (← Rtype.kind t))) Tryz.func232 (by kernel_rfl) (by kernel_rfl) (by kernel_rfl) (by kernel_rfl)
 have e5:=@run_callFunc_extern Tryz.prog 248 _ (ReflectliteType.method ReflectliteType.elem) Tryz.func248 (by kernel_rfl) (by kernel_rfl) (by kernel_rfl) (by kernel_rfl)
 have e6:=@run_callFunc_extern Tryz.prog 249 _ (ReflectliteType.relation "Implements" ReflectliteType.implements_) Tryz.func249 (by kernel_rfl) (by kernel_rfl) (by kernel_rfl) (by kernel_rfl)
 have e7:=@run_callFunc_extern Tryz.prog 214 _ ReflectliteType.typeOf Tryz.func214 (by kernel_rfl) (by kernel_rfl) (by kernel_rfl) (by kernel_rfl)
 have e8:=@run_callFunc_extern Tryz.prog 246 _ (ReflectliteType.relation "AssignableTo" ReflectliteType.assignableTo) Tryz.func246 (by kernel_rfl) (by kernel_rfl) (by kernel_rfl) (by kernel_rfl)
 have e9:=@run_callFunc_extern Tryz.prog 215 _ (ReflectliteValue.method (ReflectliteValue.valueError "reflectlite.Value.Elem" 0) ReflectliteValue.elem) Tryz.func215 (by kernel_rfl) (by kernel_rfl) (by kernel_rfl) (by kernel_rfl)
 have uO:=@run_callFunc_extern Tryz.prog 216 _ ReflectliteValue.set Tryz.func216 (by kernel_rfl) (by kernel_rfl) (by kernel_rfl) (by kernel_rfl)
 have tO:=typeOfF
 have mA:=methodAssignableTo
 have aF:=assignableF
 have vF:=valueOfF
 have vP:=valueOfP
 have tP:=typeP
 have mK:=methodKind
 have mE:=methodElem
 have mI:=methodImplements
 have kP:=kindP
 have kF:=kindF
 have lP:=elemP
 have iF:=implementsF
 have hFl:cl < w.heap.size:=yL w _ hf0
 have hEl:1 < w.heap.size:=yL w _ hg
 have n8:=isNilP ⟨w.heap.size,0,none⟩ ⟨cl,0,none⟩ ((w.alloc (.cells #[.pointer (some ⟨cl,0,none⟩)] 226)).alloc (.cells #[.pointer (some ⟨2,226,none⟩),.pointer (some ⟨w.heap.size,0,none⟩),.int .u64 150] 242)) (by simp)
 have uZ:((w.alloc (.cells #[.pointer (some ⟨cl,0,none⟩)] 226)).alloc (.cells #[.pointer (some ⟨2,226,none⟩),.pointer (some ⟨w.heap.size,0,none⟩),.int .u64 150] 242)).cell? ⟨1,0,none⟩ = some (.iface 257 (.agg #[.pointer (some ⟨2,184,none⟩)])):=by
  rw [yW _ _ ⟨1,0,none⟩ (by simp; omega),yW _ _ ⟨1,0,none⟩ hEl]; exact hg
 have el:=elemVP ⟨w.heap.size,0,none⟩ ⟨cl,0,none⟩ (((w.alloc (.cells #[.pointer (some ⟨cl,0,none⟩)] 226)).alloc (.cells #[.pointer (some ⟨2,226,none⟩),.pointer (some ⟨w.heap.size,0,none⟩),.int .u64 150] 242)).alloc (.cells #[.pointer (some ⟨2,226,none⟩),.pointer (some ⟨w.heap.size,0,none⟩),.int .u64 150] 242)) (by rw [yW _ _ ⟨w.heap.size,0,none⟩ (by simp; omega)]; simp)
 have st:=setF cl (w.heap.size + 1 + 1 + 1) c k x0 x1 ((((w.alloc (.cells #[.pointer (some ⟨cl,0,none⟩)] 226)).alloc (.cells #[.pointer (some ⟨2,226,none⟩),.pointer (some ⟨w.heap.size,0,none⟩),.int .u64 150] 242)).alloc (.cells #[.pointer (some ⟨2,226,none⟩),.pointer (some ⟨w.heap.size,0,none⟩),.int .u64 150] 242)).alloc (.cells #[I c,I k] 224))
  (by rw [World.cell?_alloc_at _ _ _ _ (by simp)]; rfl) (by rw [World.cell?_alloc_at _ _ _ _ (by simp)]; rfl)
  (by rw [yW _ _ ⟨cl,0,none⟩ (by simp; omega),yW _ _ ⟨cl,0,none⟩ (by simp; omega),yW _ _ ⟨cl,0,none⟩ (by simp; omega),yW _ _ ⟨cl,0,none⟩ hFl]; exact hf0)
  (by rw [yW _ _ ⟨cl,1,none⟩ (by simp; omega),yW _ _ ⟨cl,1,none⟩ (by simp; omega),yW _ _ ⟨cl,1,none⟩ (by simp; omega),yW _ _ ⟨cl,1,none⟩ hFl]; exact oH)
  (by rw [World.frozen?_alloc_old _ _ ⟨cl,0,none⟩ (by simp; omega),World.frozen?_alloc_old _ _ ⟨cl,0,none⟩ (by simp; omega),World.frozen?_alloc_old _ _ ⟨cl,0,none⟩ (by simp; omega),World.frozen?_alloc_old _ _ ⟨cl,0,none⟩ (Nat.ne_of_lt hFl)]; exact uH)
  (by rw [World.frozen?_alloc_old _ _ ⟨cl,1,none⟩ (by simp; omega),World.frozen?_alloc_old _ _ ⟨cl,1,none⟩ (by simp; omega),World.frozen?_alloc_old _ _ ⟨cl,1,none⟩ (by simp; omega),World.frozen?_alloc_old _ _ ⟨cl,1,none⟩ (Nat.ne_of_lt hFl)]; exact uI)
 clear hf0 oH uH uI hg
 go_enter Tryz.func194,Tryz.ntmps194
 go_wp2
 refine wp_loop_rounds 1 ?_
 rw [rounds_succ]
 go_wp2
 go_ret
 exact ⟨rfl,rfl⟩
end Go.Proofs.YtnphbkgfjanmgaaGreatDoor
namespace Go.Proofs.YtnphbkgfjanmgaaGreatDoor
open Go.RowKit
theorem codeOf_any (c k:Int) (w:World) (hg:ErrT w) :
  Calls Tryz.prog 162 #[bB c k] w fun e w'=>e = .returned (I c)∧yp w w':=by
 have HG:=H (cy hg ((Below.refl _ w).alloc yb (.cells #[I 0,I 0] 224)) yb)
 clear hg
 unfold bB
 go_enter Tryz.func162,Tryz.ntmps162
 go_wp2_with fail
 refine (as_hit w.heap.size c k (I 0) (I 0) _ (U HG) (by simp) (by simp) (by simp) (by simp)).mono ?_
 rintro e w1 ⟨rfl,qx⟩
 have kB:w1.cell? ⟨w.heap.size,0,none⟩ = some (I c):=by
  rw [qx,yM _ _ _ _ (bY (by omega))]
  refine yN _ _ _ (u:=I 0) ?_
  rw [yW _ _ ⟨w.heap.size,0,none⟩ (by simp; omega),yW _ _ ⟨w.heap.size,0,none⟩ (by simp; omega),yW _ _ ⟨w.heap.size,0,none⟩ (by simp; omega),yW _ _ ⟨w.heap.size,0,none⟩ (by simp)]
  simp
 have E:Hid (yp w w1):=by
  rw [qx]
  exact ((((((Below.refl _ w).alloc yb _).alloc (by simp) _).alloc (by simp; omega) _).alloc (by simp; omega) _).alloc (by simp; omega) _ |>.setCell (p:=⟨w.heap.size,0,none⟩) yb _).setCell (p:=⟨w.heap.size,1,none⟩) yb _
 clear qx
 go_wp2_with fail
 go_ret
 exact ⟨rfl,U E⟩
theorem number_empty (B:Nat) (w:World) (a:Option Addr) (cap:Nat) (hr:Rdr B w (.slice a 0 cap) 0) :
  Calls Tryz.prog 187 #[.pointer (some ⟨B,0,none⟩)] w fun e w'=>NumEnd B (.slice a 0 cap) w none e w':=by
 go_enter Tryz.func187,Tryz.ntmps187
 go_wp2_with fail
 refine wp_loop_rounds 1 ?_
 rw [rounds_succ]
 go_wp2_with fail
 refine (take_end B 1 0 a 0 cap _ hr (by omega) (by omega) (by omega) (by omega) (by omega)).mono ?_
 rintro e w1 ⟨rfl,q,rfl⟩
 go_wp2_with fail
 exact ⟨rfl,ex (bS _ _ _) rfl _⟩
theorem number_any (B:Nat) (v:Value) (l:List Int) (k:Nat) (w w0:World) (xO:Rd w v l) (uq:∀ a n c,v = .slice a n c→n ≤ c) (vW:w.heap.size ≤ B) (xl:yp w w0) (hr:Rdr B w0 v k) (hk:k ≤ l.length) (hl:l.length ≤ 65536) (E:Bts l) :
  Calls Tryz.prog 187 #[.pointer (some ⟨B,0,none⟩)] w0 fun e w'=>NumEnd B v w0 (getU l k) e w':=by
 have af:=rd_below xO xl yb
 obtain ⟨a,cap,rfl,_,hc⟩:=af
 obtain ⟨a',uB,e',_,hc'⟩:=xO
 by_cases xD:l = []
 ·subst xD
  obtain rfl:k = 0:=by simpa using hk
  have:getU [] 0 = none:=rfl
  rw [this]
  exact number_empty B w0 a cap hr
 ·obtain ⟨b,off,rfl,xt⟩:=hc xD
  have xJ:b < w.heap.size:=by
   simp only [Value.slice.injEq] at e'
   obtain ⟨rfl,_,rfl⟩:=e'
   obtain ⟨b2,o2,e2,oo⟩:=hc' xD
   simp only [Option.some.injEq,Addr.mk.injEq] at e2
   obtain ⟨rfl,rfl,_⟩:=e2
   have hp:0 < l.length:=List.length_pos_iff.2 xD
   exact yL w _ (oo 0 hp)
  exact number_some B w0 b off cap k l hr hk hl (uq _ _ _ rfl) (by omega) xt E
theorem frombits (n:Int) (w:World):(callFunc 205 #[.int .u64 n]).run Tryz.prog w = .ok (.value (yk n.toNat)) w:=by
 rw [run_callFunc_extern (e:=Extern.MathFloatBits.float64frombits) Tryz.func205 (by kernel_rfl) (by kernel_rfl) (by kernel_rfl) (by kernel_rfl)]
 rfl
def shl8 (u:Nat) (c:Int):Nat:=u * 256 + c.toNat
def bj (l:List Int) (k i:Nat):Nat:=((l.drop k).take i).foldl shl8 0
theorem bits8_step (l:List Int) (k i:Nat) (h:k + i < l.length):bj l k (i + 1) = shl8 (bj l k i) (l.getD (k + i) 0):=by
 unfold bj
 rw [List.take_succ_eq_append_getElem (by rw [List.length_drop]; omega),List.foldl_append]
 simp [h]
theorem bits8_lt (l:List Int) (k:Nat) (E:Bts l):∀ i,bj l k i < 256 ^ i
 | 0=>by simp [bj]
 | i + 1=>by
  have ih:=bits8_lt l k E i
  by_cases h:k + i < l.length
  ·rw [bits8_step l k i h,Nat.pow_succ]
   have:=bts_get E (k + i)
   unfold shl8
   omega
  ·have e:bj l k (i + 1) = bj l k i:=by
    unfold bj
    rw [xa (by rw [List.length_drop]; omega),xa (by rw [List.length_drop]; omega)]
   rw [e,Nat.pow_succ]; omega
theorem or8 (u:Nat) (c:Int) (hu:u < 72057594037927936) (h0:0 ≤ c) (N:c ≤ 255):bits .or .u64 (IntKind.u64.wrap ((u:Int) * 256)) c = (shl8 u c:Int):=by
 have e2:(u:Int) * 256 = ((u * 256:Nat):Int):=by omega
 obtain ⟨d,rfl⟩:=Int.eq_ofNat_of_zero_le h0
 rw [e2,IntKind.wrap_u64,Int.emod_eq_of_lt (by omega) (by omega),u64_or_nat _ _ (by omega) (by omega)]
 rw [nat_join 8 _ _ (by omega) (by omega)]
 unfold shl8
 rw [Int.toNat_natCast]
def bQ (l:List Int) (k:Nat):Option (Nat × Nat) :=
 if l.length < k + 8 then none else if nanB (bj l k 8) = true∧bj l k 8 ≠ 9221120237041090560 then none else some (bj l k 8,k + 8)
theorem floatA_end {l:List Int} {k:Nat} (h:l.length < k + 8):bQ l k = none:=if_pos h
theorem floatA_bad {l:List Int} {k:Nat} (h:¬ l.length < k + 8) (E:nanB (bj l k 8) = true∧bj l k 8 ≠ 9221120237041090560):bQ l k = none:=by
 unfold bQ; rw [if_neg h,if_pos E]
theorem floatA_yes {l:List Int} {k:Nat} (h:¬ l.length < k + 8) (E:¬ (nanB (bj l k 8) = true∧bj l k 8 ≠ 9221120237041090560)):bQ l k = some (bj l k 8,k + 8):=by
 unfold bQ; rw [if_neg h,if_neg E]
def FltEnd (B:Nat) (v:Value) (w:World) (r:Option (Nat × Nat)) (e:Ending) (w':World):Prop :=
 w.grownBy w' (some B)∧(∀ x next,r = some (x,next)→e = .returned (yk x)∧Rdr B w' v next)∧(r = none→∃ p,e = .panicked (bI 3 p))
theorem fltEnd_fail {B:Nat} {v:Value} {w w':World} {r:Option (Nat × Nat)} (hg:w.grownBy w' (some B)) (hr:r = none) (p:Int):FltEnd B v w r (.panicked (bI 3 p)) w' :=
 ⟨hg,(fun _ _ h=>by rw [hr] at h; cases h),fun _=>⟨p,rfl⟩⟩
theorem fltEnd_done {B:Nat} {v:Value} {w w':World} {r:Option (Nat × Nat)} {u n:Nat} (hg:w.grownBy w' (some B)) (hr:r = some (u,n)) (h:Rdr B w' v n):FltEnd B v w r (.returned (yk u)) w' :=
 ⟨hg,(fun a b h'=>by rw [hr] at h'; cases h'; exact ⟨rfl,h⟩),(fun h'=>by rw [hr] at h'; cases h')⟩
theorem float_some (B:Nat) (w0:World) (b off cap k:Nat) (l:List Int) (hr:Rdr B w0 (.slice (some ⟨b,off,none⟩) l.length cap) k) (h8:k + 8 ≤ l.length) (hl:l.length ≤ 65536) (uq:l.length ≤ cap) (aB:b ≠ B)
  (hc:∀ i,i < l.length→w0.cell? ⟨b,off + i,none⟩ = some (.int .u8 (l.getD i 0))) (E:Bts l) :
  Calls Tryz.prog 189 #[.pointer (some ⟨B,0,none⟩)] w0 fun e w'=>FltEnd B (.slice (some ⟨b,off,none⟩) l.length cap) w0 (bQ l k) e w':=by
 have HR:=H hr
 have HC:=H hc
 have HB:=H E
 have oI:=frombits
 have pD:=H (floatA_bad (l:=l) (k:=k) (by omega))
 have HYes:=H (floatA_yes (l:=l) (k:=k) (by omega))
 clear hr hc E
 go_enter Tryz.func189,Tryz.ntmps189
 go_wp2_with fail
 refine (take_ok B 8 k b off l.length cap _ (U HR) (by omega) (by omega) uq (by omega)).mono ?_
 rintro e w1 ⟨rfl,q,rfl⟩
 have HRw:=H (((U HR).step ((k + 8:Nat):Int)).drewN q)
 have HGw:=H (bm (gr_set w0 ⟨B,1,none⟩ (I ((k + 8:Nat):Int))) (bS _ q _))
 go_wp2_with fail
 go_loop [3,10] (fun uv iv=>∃ i:Nat,i ≤ 8∧iv = I i∧uv = .int .u64 (bj l k i)) (fun _ iv=>8 - (intOf iv).toNat)
 case atStart=>exact ⟨0,by omega,rfl,rfl⟩
 case round =>
  obtain ⟨i,hi,rfl,rfl⟩:=hrel
  by_cases xJ:i < 8
  ·have hcx:=U HC (k + i) (by omega)
   rw [← Nat.add_assoc] at hcx
   have kA:=bts_get (U HB) (k + i)
   have hlt8:=bits8_lt l k (U HB) i
   have hp:256 ^ i ≤ 72057594037927936:=yO (Nat.pow_le_pow_right (by omega) (show i ≤ 7 by omega)) (by decide)
   have pX:=or8 (bj l k i) (l.getD (k + i) 0) (by omega) kA.1 kA.2
   have HS:=H (bits8_step l k i (by omega))
   rw [← U HS] at pX
   have uF:(i:Int) < 8:=by omega
   generalize l.getD (k + i) 0 = c at *
   generalize hu:bj l k i = u at *
   generalize hu':bj l k (i + 1) = u' at *
   have HU':=H hu'
   clear hlt8 hp hu hu'
   obtain ⟨kB,jn⟩:=kA
   go_wp2_with fail
   go_round
   case rel=>exact ⟨i + 1,by omega,by go_num,by rw [U HU']⟩
   case measure=>simp [intOf]; omega
  ·obtain rfl:i = 8:=by omega
   generalize bj l k 8 = u at *
   cases hn:nanB u with
   | true =>
    by_cases he:u = 9221120237041090560
    ·have HY:=H (U HYes (by intro h; exact h.2 he))
     have he':((u:Int) != 9221120237041090560) = false:=by rw [he]; rfl
     clear he
     go_wp2_with (go_at_call 165; refine (ek _ _).mono ?_; rintro e w' ⟨rfl,rfl⟩)
     go_ret
     exact fltEnd_done (U HGw) (U HY) (U HRw)
    ·have HY:=H (U pD ⟨hn,he⟩)
     have he':((u:Int) != 9221120237041090560) = true:=by rw [bne_iff_ne]; omega
     clear he
     go_wp2_with (go_at_call 165; refine (ek _ _).mono ?_; rintro e w' ⟨rfl,rfl⟩)
     refine (cH B 3 _ _ _ (U HRw)).mono ?_
     rintro e w2 ⟨rfl,rfl⟩
     go_wp2_with fail
     exact ⟨rfl,fltEnd_fail (U HGw) (U HY) _⟩
   | false =>
    have HY:=H (U HYes (by intro h; rw [hn] at h; cases h.1))
    go_wp2_with (go_at_call 165; refine (ek _ _).mono ?_; rintro e w' ⟨rfl,rfl⟩)
    go_ret
    exact fltEnd_done (U HGw) (U HY) (U HRw)
theorem float_end (B:Nat) (w0:World) (a:Option Addr) (cap k:Nat) (l:List Int) (hr:Rdr B w0 (.slice a l.length cap) k) (hk:k ≤ l.length) (h8:l.length < k + 8) (hl:l.length ≤ 65536) :
  Calls Tryz.prog 189 #[.pointer (some ⟨B,0,none⟩)] w0 fun e w'=>FltEnd B (.slice a l.length cap) w0 (bQ l k) e w':=by
 have HR:=H hr
 have HY:=H (floatA_end h8)
 clear hr
 go_enter Tryz.func189,Tryz.ntmps189
 go_wp2_with fail
 refine (take_end B 8 k a l.length cap _ (U HR) (by omega) (by omega) (by omega) (by omega) (by omega)).mono ?_
 rintro e w1 ⟨rfl,q,rfl⟩
 go_wp2_with fail
 exact ⟨rfl,fltEnd_fail (bS _ _ _) (U HY) _⟩
theorem float_any (B:Nat) (v:Value) (l:List Int) (k:Nat) (w w0:World) (xO:Rd w v l) (uq:CapOk v) (vW:w.heap.size ≤ B) (xl:yp w w0) (hr:Rdr B w0 v k) (hk:k ≤ l.length) (hl:l.length ≤ 65536) (E:Bts l) :
  Calls Tryz.prog 189 #[.pointer (some ⟨B,0,none⟩)] w0 fun e w'=>FltEnd B v w0 (bQ l k) e w':=by
 obtain ⟨a,cap,rfl,_,hc⟩:=xO
 by_cases h8:l.length < k + 8
 ·exact float_end B w0 a cap k l hr hk h8 hl
 ·obtain ⟨b,off,rfl,xt⟩:=hc (by intro h; rw [h] at h8; simp at h8)
  have kz:b < w.heap.size:=yL w _ (xt 0 (by omega))
  exact float_some B w0 b off cap k l hr (by omega) hl (uq _ _ _ rfl) (by omega) (fun i hi=>(xl.cell (p:=⟨b,off + i,none⟩) kz).trans (xt i hi)) E
def strB (ns:List Int):ByteArray:=ns.foldl (fun r n=>r.push (UInt8.ofNat n.toNat)) ByteArray.empty
theorem load_row {P:Program} (W:World) (b off:Nat) (ns:List Int) (h:∀ i,i < ns.length→W.cell? (Q b (off + i)) = some (.int .u8 (ns.getD i 0))) :
  ∀ (m i:Nat) (acc:Array Value),i + m = ns.length→acc = ((ns.take i).map (Value.int .u8)).toArray→(loadCellsFrom (Q b off) i m acc).run P W = .ok (ns.map (Value.int .u8)).toArray W:=by
 intro m
 induction m with
 | zero =>
  intro i acc hi ha
  subst ha
  rw [xa (by omega)]
  rfl
 | succ m ih =>
  intro i acc hi ha
  have e:((Q b off):Addr).add i = (Q b (off + i)):=by unfold Addr.add; split <;> simp_all
  have hc:=h i (by omega)
  simp only [loadCellsFrom,Sem.run_bind,e]
  have hl:(load (Q b (off + i))).run P W = .ok (.int .u8 (ns.getD i 0)) W:=by simp [hc]
  rw [hl]
  simp only [Result.andThen]
  refine ih (i + 1) _ (by omega) ?_
  rw [ha,take_get ns i (by omega),List.map_append]
  simp
theorem conv_text (v:Value) (ns:List Int) (W:World) (hr:Rd W v ns) :
  (convert 115 9 v).run Tryz.prog W = .ok (yl (strB ns)) W:=by
 obtain ⟨a,cap,rfl,_,hc⟩:=hr
 rw [run_convert_bytes_string W _ _ 5 a _ _ Tryz.underlying115 Tryz.underlying5 Tryz.underlying9]
 by_cases xD:ns = []
 ·subst xD
  cases a with
  | none=>rfl
  | some ad=>rfl
 ·obtain ⟨b,off,rfl,xt⟩:=hc xD
  exact run_bytesToString W (Q b off) ns.length cap ns (load_row W b off ns xt ns.length 0 #[] (by omega) rfl)
end Go.Proofs.YtnphbkgfjanmgaaGreatDoor
