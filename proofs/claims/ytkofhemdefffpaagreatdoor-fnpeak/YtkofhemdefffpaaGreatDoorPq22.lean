/-.-/
import Derived.Test.YtkofhemdefffpaaGreatDoorPq04
import Derived.Test.YtkofhemdefffpaaGreatDoorPq21
import Derived.Maps.AppendAt
import Derived.Laws.BytesString
import Derived.Defers
import Derived.Recover
import Derived.Laws.Pointers
import Derived.Stop.Asserts
import Derived.LaidEql
import Derived.RowKitTokens
set_option linter.unusedVariables false
set_option maxHeartbeats 6400000
set_option maxRecDepth 100000
namespace Go.Proofs.YtkofhemdefffpaaGreatDoor
open Go Ieee
theorem d_bin:double.binade=4503599627370496:=by decide
theorem d_inf:double.infRung=9218868437227405312:=by decide
theorem d_sw:double.signWeight=9223372036854775808:=by decide
theorem d_lp:double.leastPlace = -1074:=by decide
theorem nan_iff (x:Nat):nanB x=true ↔ (double.read x).isNaN=true:=by
 constructor
 ·intro h
  by_cases hn:(double.read x).isNaN=true
  ·exact hn
  ·have:=datum_self _ hn;have e:FloatKind.f64.format.order x x=some Ordering.eq:=this;simp[nanB,e] at h
 ·intro h;cases hx:double.read x with
  | nan s f =>
   have e:FloatKind.f64.format.order x x=none:=by
    show(double.read x).order (double.read x)=none;rw[hx];rfl
   simp[nanB,e]
  | infinity s=>rw[hx] at h;simp[Datum.isNaN] at h
  | number s m i=>rw[hx] at h;simp[Datum.isNaN] at h
theorem nan_rung (x:Nat):nanB x=true ↔ 9218868437227405312<x % 9223372036854775808:=by
 rw[nan_iff];unfold Format.read;simp only[d_bin,d_inf,d_sw,d_lp];split
 ·simp[Datum.isNaN];omega
 ·split
  ·simp[Datum.isNaN];omega
  ·split
   ·simp[Datum.isNaN];omega
   ·simp[Datum.isNaN];omega
theorem nan_drawn (t:Nat):nanB ((t % 2)*2 ^ 63+0x7ff0000000000000+1+(t / 2) % (2 ^ 52-1))=true:=by
 rw[nan_rung];have Z:t % 2<2:=Nat.mod_lt _ (by decide);have Q:(t / 2) % (2 ^ 52-1)<2 ^ 52-1:=Nat.mod_lt _ (by decide);rw[show(2:Nat) ^ 63=9223372036854775808 from rfl];rw[show(2:Nat) ^ 52-1=4503599627370495 from rfl] at *;generalize (t / 2) % 4503599627370495=b at *;generalize t % 2=a at *;rcases(show a=0\/a=1 by omega) with rfl|rfl <;> omega
end Go.Proofs.YtkofhemdefffpaaGreatDoor
namespace Go.Proofs.YtkofhemdefffpaaGreatDoor
open Go.RowKit
theorem fold_any (n:Int)(w:World)(h0:-9223372036854775808<=n)(Z:n<=9223372036854775807) :
  Calls Tryz.prog 117 #[H n] w fun e w'=>e = .returned (.int .u64 (zz n))/\w'=w:=by
 have HX:=U (fold_eq n h0 Z);go_enter Tryz.func117,Tryz.ntmps117;go_wp2;go_ret;exact⟨zt (O HX),rfl⟩
theorem Tryz.arrayLen193:Tryz.prog.arrayLen 193 = 10:=by kernel_rfl
theorem slice_head10 (B k:Nat)(h:k<=9)(W:World) :
  (Instr.sliceAt 193 (h3 B 0) none (some (H ((k:Int)+1))) none).run Tryz.prog W = .ok (.slice (some (Y B 0)) (k+1) 10) W:=by
 rw[run_sliceAt_array_h W 193 _ (by kernel_rfl) _ _ (by omega) (by rw[Tryz.arrayLen193];omega),Tryz.arrayLen193];have e:((k:Int)+1).toNat=k+1:=by omega
 have hs:(sizeOf (Tryz.prog.elem 193)).run Tryz.prog W = .ok 1 W:=by kernel_rfl
 rw[hs,e];simp[slicedAt,Result.andThen,Addr.add]
theorem gH (n:Int)(w:World)(h0:-9223372036854775808<=n)(Z:n<=9223372036854775807) :
  Calls Tryz.prog 92 #[H n] w fun e w'=>∃v,e = .returned v/\OwnT w.heap.size w' v (putU (zz n))/\yp w w':=by
 have HL:=U (zH _ (dy n h0 Z));have H6:=U (dy n h0 Z);have HF:=U (fun w=>fold_any n w h0 Z);clear h0 Z;generalize hz:zz n=u0 at *;have HZ:=U hz;clear hz;go_enter Tryz.func92,Tryz.ntmps92;go_wp2_with (go_at_call 117;refine(O HF _).mono ?_;rintro e w' ⟨rfl,rfl⟩);go_loopw [4,5] (fun u c wr=>∃(x:Nat) (done:List Int),u = .int .u64 x/\Lt64 x/\c=H done.length/\done++putU x=putU u0/\Arr 10 w.heap.size w wr done) (fun u _ _=>(intOf u).toNat)
 case atStart=>exact⟨u0,[],rfl,O H6,rfl,rfl,arr_start _ _ _ rfl⟩
 case round =>
  obtain⟨x,done,rfl,hx,rfl,oe,harr⟩:=hrel;have HD:=U oe;have hdl:=putU_at (O HL) oe;have hdl':(done.length:Int)<10:=by omega
  clear oe;obtain⟨v0,hv0⟩:=harr.some (j:=done.length) (by omega);have hf0:=harr.free done.length
  by_cases xK:x<128
  ·have HE:=U (putU_end xK (O HD));have HA:=U (arr_step (x:Int) harr (by omega));have hsl:=slice_head10 w.heap.size done.length (by omega);clear harr;go_wp2_with fail;go_ret;have hE:=O HE;rw[hE] at HA;have xC:done.length+1=(putU u0).length:=by rw[<- hE];simp
   refine⟨_,rfl,?_,(O HA).below⟩;rw[xC];exact arr_own (O HA) rfl (by omega)
  ·have ux:(128:Int)<=x:=by omega
   have hand:=and127 x hx;have HA:=U (arr_step ((x:Int) % 128+128) harr (by omega));clear harr;go_wp2_with fail;go_roundw
   case rel=>exact⟨x / 128,done ++ [(x:Int) % 128+128],by go_num,by unfold Lt64 at *;omega,by simp,putU_step xK (O HD),O HA⟩
   case measure=>simp[intOf];omega
structure Rdr (B:Nat) (w:World) (v:Value) (k:Int):Prop where
 bytes:w.cell? ⟨B,0,none⟩=some v
 place:w.cell? ⟨B,1,none⟩=some (.int .i64 k)
 free:w.frozen? ⟨B,1,none⟩=false
theorem Rdr.drewN {B:Nat}{w:World}{v:Value}{k:Int}(h:Rdr B w v k)(n:Nat):Rdr B (w.drewN n) v k:=⟨h.1,h.2,h.3⟩
theorem Rdr.step {B:Nat}{w:World}{v:Value}{k:Int}(h:Rdr B w v k)(m:Int):Rdr B (w.setCell ⟨B,1,none⟩ (H m)) v m:=
 ⟨by rw[yM _ _ _ _ (zV (by omega))];exact h.1,yN _ _ _ h.2,by rw[World.frozen?_setCell];exact h.3⟩
def ey (c k:Int):List PanicEntry:=[{ v:=.iface 152 (.agg #[H c,H k]),recovered:=false }]
theorem fu (B:Nat)(c k:Int)(v:Value)(w:World)(hr:Rdr B w v k) :
  Calls Tryz.prog 72 #[.pointer (some ⟨B,0,none⟩),H c] w fun e w'=>e = .panicked (ey c k)/\w'=w:=by
 have Q:=hr.2;clear hr;go_enter Tryz.func72,Tryz.ntmps72;go_wp2;exact⟨rfl,rfl,rfl⟩
theorem iO (B:Nat)(c k:Int)(a:Option Addr)(len cap:Nat)(w:World)(hr:Rdr B w (.slice a len cap) k)(h0:0<=k)(Z:k<=len)(hl:len<=1073741824)(hc:(len:Int)-k<c)(jX:c<=1073741824) :
  Calls Tryz.prog 71 #[.pointer (some ⟨B,0,none⟩),H c] w fun e w'=>e = .panicked (ey 3 k)/\∃q,w'=w.drewN q:=by
 have HR:=U hr;obtain⟨c1,c2,c3⟩:=hr;go_enter Tryz.func71,Tryz.ntmps71;go_wp2_with fail;go_quiet (fail);go_wp2_with fail;refine(fu B 3 k _ _ ((O HR).drewN _)).mono ?_;rintro e w1 ⟨rfl,rfl⟩;go_wp2_with fail;exact⟨rfl,rfl,_,rfl⟩
theorem take_ok (B:Nat)(c k:Nat)(b off len cap:Nat)(w:World)(hr:Rdr B w (.slice (some ⟨b,off,none⟩) len cap) k)(Z:k+c<=len)(hl:len<=1073741824)(xW:len<=cap)(jX:1<=c) :
  Calls Tryz.prog 71 #[.pointer (some ⟨B,0,none⟩),H c] w fun e w'=>e = .returned (.slice (some ⟨b,off+k,none⟩) c (cap-k))/\∃q,w'=(w.setCell ⟨B,1,none⟩ (H (k+c:Nat))).drewN q:=by
 have HR:=U hr;obtain⟨c1,c2,c3⟩:=hr;have h1':(k:Int)+c<=len:=by omega
 have ah:¬ ((len:Int)-k<c):=by omega
 have h3':(k:Int)+c<=cap:=by omega
 have xE:¬ (cap=k):=by omega
 go_enter Tryz.func71,Tryz.ntmps71;go_wp2_with fail;go_quiet (fail);go_wp2_with fail;go_quiet (fail);go_wp2_with fail;go_ret;refine⟨by simp,_,by congr 3⟩
theorem check_ok (B:Nat)(k:Int)(a:Option Addr)(len cap:Nat)(w:World)(hr:Rdr B w (.slice a len cap) k)(h0:0<=k)(Z:k<=len)(hl:len<=65536) :
  Calls Tryz.prog 89 #[.pointer (some ⟨B,0,none⟩)] w fun e w'=>e = .returned (.tuple #[])/\∃q,w'=w.drewN q:=by
 obtain⟨c1,c2,c3⟩:=hr;have hl':(len:Int)<=65536:=by omega
 have hd:decide (k<0)=false:=by simpa using h0
 go_enter Tryz.func89,Tryz.ntmps89;go_wp2_with fail;go_quiet (fail);go_wp2_with fail;go_end0;exact⟨rfl,_,rfl⟩
theorem check_long (B:Nat)(k:Int)(a:Option Addr)(len cap:Nat)(w:World)(hr:Rdr B w (.slice a len cap) k)(hl:65536<len) :
  Calls Tryz.prog 89 #[.pointer (some ⟨B,0,none⟩)] w fun e w'=>e = .panicked (ey 2 k)/\∃q,w'=w.drewN q:=by
 have HR:=U hr;obtain⟨c1,c2,c3⟩:=hr;have hl':(65536:Int)<len:=by omega
 go_enter Tryz.func89,Tryz.ntmps89;go_wp2_with fail;refine(fu B 2 k _ _ (O HR)).mono ?_;rintro e w1 ⟨rfl,rfl⟩;go_wp2_with fail;exact⟨rfl,rfl,0,rfl⟩
theorem check_out (B:Nat)(k:Int)(a:Option Addr)(len cap:Nat)(w:World)(hr:Rdr B w (.slice a len cap) k)(h:k<0\/(len:Int)<k)(hl:len<=65536) :
  Calls Tryz.prog 89 #[.pointer (some ⟨B,0,none⟩)] w fun e w'=>e = .panicked (ey 5 k)/\∃q,w'=w.drewN q:=by
 have HR:=U hr;obtain⟨c1,c2,c3⟩:=hr;have hl':(len:Int)<=65536:=by omega
 rcases(show k<0\/(0<=k/\(len:Int)<k) by omega) with h0|⟨h0,Z⟩
 ·have hd:decide (k<0)=true:=by simpa using h0
  clear h;go_enter Tryz.func89,Tryz.ntmps89;go_wp2_with fail;go_quiet (fail);go_wp2_with fail;refine(fu B 5 k _ _ ((O HR).drewN _)).mono ?_;rintro e w1 ⟨rfl,rfl⟩;go_wp2_with fail;exact⟨rfl,rfl,_,rfl⟩
 ·have hd:decide (k<0)=false:=by simpa using h0
  clear h;go_enter Tryz.func89,Tryz.ntmps89;go_wp2_with fail;go_quiet (fail);go_wp2_with fail;refine(fu B 5 k _ _ ((O HR).drewN _)).mono ?_;rintro e w1 ⟨rfl,rfl⟩;go_wp2_with fail;exact⟨rfl,rfl,_,rfl⟩
abbrev BRow (W:World)(B:Nat)(v:Value)(l:List Int):Prop:=W.ownsRow B 5 1 v l.length (l.map (Value.int .u8))
theorem zQ {W W':World}{B:Nat}{v:Value}{l:List Int}(h:BRow W B v l)(K:yp W W'):BRow W' B v l:=
 World.ownsRow.kept h (row:=none) ⟨K.os,K.tape,K.output,K.size,fun k E _=>K.block k E⟩ (by cases v.ownBlock <;> simp)
theorem eL {W:World}{B:Nat}{v:Value}{l m:List Int}(h:W.ownsRow B 5 1 v (l.length+m.length) (l.map (Value.int .u8)++m.map (Value.int .u8))):BRow W B v (l++m):=by
 show W.ownsRow _ _ _ _ (l++m).length _;rw[yQ,List.map_append];exact h
theorem bRow_own {W:World}{B:Nat}{v:Value}{l:List Int}(h:BRow W B v l)(xE:0<l.length)(hl:l.length<=1073741824):OwnT B W v l:=ownT_row xE hl h
theorem zD {P:Program}(w:World){cB:Array Oper}{rest:List Oper}{o:Oper}{a:Act}{h2:Exit->Act->World->Prop}(hgd:o.guard=none)(s x:Operand)(t:TypeId)
  (D:o.op = .call { callee:=.builtin .append,args:=#[s,x],argTypes:=#[t,t] })
  (B:Nat) (i:TypeInfo) (ht:P.underlying t=some (.slice 5)) (hi:P.info? 5 = some i) (hz:i.zero=some (.int .u8 0)) (jp:i.size=1) (hby:i.bytes=1)
  (v:Value) (l:List Int) (hs:a.eval s=v) (xu:BRow w B v l) (C:Nat) (vx:Value) (m:List Int) (hx:a.eval x=vx) (hr:OwnT C w vx m)
  (K:l.length+m.length<=1073741824) (hB:B<=w.heap.size)
  (h:∀v' w',BRow w' B v' (l++m)->w.grownBy w' v.ownBlock->(v'.ownBlock=v.ownBlock\/v'.ownBlock=some w.heap.size)->wpList P cB h2 rest (a.put o.dst v') w'):wpList P cB h2 (o::rest) a w:=by
 obtain⟨g,cap,xt,tt,rfl,_,F,_,_,_,hl,pG⟩:=hr
 refine wpList_append_own_at w hgd s x t D B 5 i (.int .u8 0) 1 1 ht hi hz jp hby rfl (by decide) v l.length (l.map (Value.int .u8)) hs xu (Y g 0) m.length cap (m.map (Value.int .u8)) hx (by simp) (fun j u hj=>?_) (fun u hu=>?_)
  (by unfold maxLen;omega) (by omega) hB (fun v' w' Z Q _ h4=>h v' w' (eL Z) Q h4)
 ·have pO:j<m.length:=by
   rcases Nat.lt_or_ge j m.length with h|h
   ·exact h
   ·rw[List.getElem?_eq_none (by simpa using h)] at hj;cases hj
  rw[List.getElem?_map,yI pO] at hj;have e:((Y g 0):Addr).add j=(Y g j):=by unfold Addr.add;split <;> simp_all
  rw[e,lj F pG pO];simpa[pO] using hj
 ·obtain⟨y,_,rfl⟩:=List.mem_map.1 hu;rfl
def strB (ns:List Int):ByteArray:=ns.foldl (fun r n=>r.push (UInt8.ofNat n.toNat)) ByteArray.empty
theorem load_row {P:Program}(W:World)(b off:Nat)(ns:List Int)(h:∀i,i<ns.length->W.cell? (Y b (off+i))=some (.int .u8 (ns.getD i 0))) :
  ∀(m i:Nat) (acc:Array Value),i+m=ns.length->acc=((ns.take i).map (Value.int .u8)).toArray->(loadCellsFrom (Y b off) i m acc).run P W = .ok (ns.map (Value.int .u8)).toArray W:=by
 intro m
 induction m with
 | zero =>
  intro i acc hi ha;subst ha;rw[xa (by omega)];rfl
 | succ m ih =>
  intro i acc hi ha;have e:((Y b off):Addr).add i=(Y b (off+i)):=by unfold Addr.add;split <;> simp_all
  have hc:=h i (by omega);simp only[loadCellsFrom,Sem.run_bind,e];have hl:(load (Y b (off+i))).run P W = .ok (.int .u8 (ns.getD i 0)) W:=by simp[hc]
  rw[hl];simp only[Result.andThen];refine ih (i+1) _ (by omega) ?_;rw[ha,take_get ns i (by omega),List.map_append];simp
theorem conv_text (v:Value)(ns:List Int)(W:World)(hr:Rd W v ns) :
  (convert 22 9 v).run Tryz.prog W = .ok (yl (strB ns)) W:=by
 obtain⟨a,cap,rfl,_,hc⟩:=hr;rw[run_convert_bytes_string W _ _ 5 a _ _ Tryz.underlying22 Tryz.underlying5 Tryz.underlying9]
 by_cases xE:ns = []
 ·subst xE;cases a with
  | none=>rfl
  | some ad=>rfl
 ·obtain⟨b,off,rfl,xp⟩:=hc xE;exact run_bytesToString W (Y b off) ns.length cap ns (load_row W b off ns xp ns.length 0 #[] (by omega) rfl)
end Go.Proofs.YtkofhemdefffpaaGreatDoor
namespace Go.Proofs.YtkofhemdefffpaaGreatDoor
open Go
theorem unz_zz (n:Int):unz (zz n)=n:=by
 unfold unz zz
 by_cases h:n<0
 ·rw[if_pos h,if_pos (by omega)];omega
 ·rw[if_neg h,if_neg (by omega)];omega
theorem drop_head {l r:List Int}{k:Nat}{c:Int}(h:l.drop k=c::r):k<l.length/\l.getD k 0=c/\l.drop (k+1)=r:=by
 have E:k<l.length:=by
  rcases Nat.lt_or_ge k l.length with Z|Z
  ·exact Z
  ·rw[List.drop_eq_nil_of_le Z] at h;cases h
 rw[xd E] at h;injection h with Z Q;exact⟨E,by simp[E,Z],Q⟩
theorem putU_bts:∀(u:Nat),∀x∈putU u,0<=x/\x<=255:=by
 intro u
 induction u using Nat.strongRecOn with
 | _ u ih =>
  by_cases hu:u<128
  ·rw[iE hu];intro x hx;simp at hx;omega
  ·rw[iY hu];intro x hx;rcases List.mem_cons.1 hx with rfl|hx
   ·omega
   ·exact ih (u / 128) (by omega) x hx
end Go.Proofs.YtkofhemdefffpaaGreatDoor
namespace Go.Proofs.YtkofhemdefffpaaGreatDoor
open Go.RowKit
theorem unfold_any (u:Nat)(w:World)(Z:u<18446744073709551616) :
  Calls Tryz.prog 91 #[.int .u64 u] w fun e w'=>e = .returned (H (unz u))/\w'=w:=by
 have h0:(0:Int)<=(u:Int):=by omega
 have Q:(u:Int)<=18446744073709551615:=by omega
 have HF:=U (unfold_eq u Z);clear Z;go_enter Tryz.func91,Tryz.ntmps91;go_wp2;go_ret;exact⟨zt (O HF),rfl⟩
theorem scan_end (l:List Int)(k i u:Nat)(hi:i<=9)(h:l.length<=k+i):scan l k (10-i) i u=none:=by
 obtain⟨f,hf⟩:∃f,10-i=f+1:=⟨9-i,by omega⟩;rw[hf,scan,if_pos h]
theorem scan_bad (l:List Int)(k i u:Nat)(hi:i<=9)(h:k+i<l.length)(K:(i=9/\1<l.getD (k+i) 0)\/(0<i/\l.getD (k+i) 0=0)):scan l k (10-i) i u=none:=by
 obtain⟨f,hf⟩:∃f,10-i=f+1:=⟨9-i,by omega⟩;rw[hf,scan,if_neg (by omega),if_pos K]
theorem scan_yes (l:List Int)(k i u:Nat)(hi:i<=9)(h:k+i<l.length)(K:¬ ((i=9/\1<l.getD (k+i) 0)\/(0<i/\l.getD (k+i) 0=0)))(hc:l.getD (k+i) 0<128) :
  scan l k (10-i) i u=some (u+(l.getD (k+i) 0 % 128).toNat*128 ^ i,k+i+1):=by
 obtain⟨f,hf⟩:∃f,10-i=f+1:=⟨9-i,by omega⟩;rw[hf,scan,if_neg (by omega),if_neg K,if_pos hc]
theorem scan_next (l:List Int)(k i u:Nat)(hi:i<=9)(h:k+i<l.length)(K:¬ ((i=9/\1<l.getD (k+i) 0)\/(0<i/\l.getD (k+i) 0=0)))(hc:¬ l.getD (k+i) 0<128) :
  scan l k (10-i) i u=scan l k (10-(i+1)) (i+1) (u+(l.getD (k+i) 0 % 128).toNat*128 ^ i):=by
 obtain⟨f,hf⟩:∃f,10-i=f+1:=⟨9-i,by omega⟩;rw[hf,scan,if_neg (by omega),if_neg K,if_neg hc,show 10-(i+1)=f by omega]
def NumEnd (B:Nat)(v:Value)(w:World)(r:Option (Nat × Nat))(e:Ending)(w':World):Prop:=
 w.grownBy w' (some B)/\(∀u next,r=some (u,next)->e = .returned (H (unz u))/\Rdr B w' v next)/\(r=none->∃p,e = .panicked (ey 3 p))
theorem lw {B:Nat}{v:Value}{w w':World}{r:Option (Nat × Nat)}(F:w.grownBy w' (some B))(hr:r=none)(p:Int):NumEnd B v w r (.panicked (ey 3 p)) w':=
 ⟨F,(fun _ _ h=>by rw[hr] at h;cases h),fun _=>⟨p,rfl⟩⟩
theorem numEnd_done {B:Nat}{v:Value}{w w':World}{r:Option (Nat × Nat)}{u n:Nat}(F:w.grownBy w' (some B))(hr:r=some (u,n))(h:Rdr B w' v n):NumEnd B v w r (.returned (H (unz u))) w':=
 ⟨F,(fun a b h'=>by rw[hr] at h';cases h';exact⟨rfl,h⟩),(fun h'=>by rw[hr] at h';cases h')⟩
theorem number_some (B:Nat)(w:World)(b off cap k:Nat)(l:List Int)(hr:Rdr B w (.slice (some ⟨b,off,none⟩) l.length cap) k)(E:k<=l.length)(hl:l.length<=65536)(xW:l.length<=cap)(cP:b≠B)
  (hc:∀i,i<l.length->w.cell? ⟨b,off+i,none⟩=some (.int .u8 (l.getD i 0))) (K:Bts l) :
  Calls Tryz.prog 73 #[.pointer (some ⟨B,0,none⟩)] w fun e w' =>
   NumEnd B (.slice (some ⟨b,off,none⟩) l.length cap) w (getU l k) e w':=by
 have HR:=U hr;have HC:=U hc;have HB:=U K;clear hr hc K;go_enter Tryz.func73,Tryz.ntmps73;go_wp2_with fail;go_loopw [3,4] (fun uv iv wr=>∃i u:Nat,uv = .int .u64 u/\iv=H i/\i<=9/\u<128 ^ i/\scan l k (10-i) i u=getU l k/\k+i<=l.length/\Rdr B wr (.slice (some ⟨b,off,none⟩) l.length cap) ((k+i:Nat):Int)/\w.grownBy wr (some B)) (fun _ iv _=>10-(intOf iv).toNat)
 case atStart=>exact⟨0,0,rfl,rfl,by omega,by decide,rfl,by omega,O HR,yS _ _⟩
 case round =>
  obtain⟨i,u,rfl,rfl,hi,hu,hs,hki,xY,uN⟩:=hrel;have HS:=U hs;have HU:=U hu;have qj:=U xY;have vu:=U uN;clear hs hu xY uN
  by_cases vE:k+i<l.length
  ·have hcx:=O HC (k+i) vE;have vL:=gk (O HB) (k+i);have HE:=U (fun h=>scan_bad l k i u hi vE h);have HY:=U (fun Z Q=>scan_yes l k i u hi vE Z Q);have HN:=U (fun Z Q=>scan_next l k i u hi vE Z Q);generalize l.getD (k+i) 0=c at *;obtain⟨jT,jX⟩:=vL;have hcr:=(O vu).cell hcx (by simpa using cP);clear hcx;go_wp2_with fail;refine(take_ok B 1 (k+i) b off l.length cap _ (O qj) (by omega) (by omega) xW (by omega)).mono ?_;rintro e w1 ⟨rfl,q,rfl⟩;have vv:=U (((O qj).step ((k+i+1:Nat):Int)).drewN q);have HGW:=U (zr (O vu) (zr (fI wr ⟨B,1,none⟩ (H ((k+i+1:Nat):Int))) (ef _ q _)))
   by_cases qM:(i=9/\1<c)\/(0<i/\c=0)
   ·have bm:=U (O HE qM);rcases(show(i=9/\1<c)\/(¬ (i=9/\1<c)/\0<i/\c=0) by omega) with⟨rfl,Q⟩|⟨I,h4,rfl⟩
    ·clear qM;go_wp2_with fail;refine(fu B 3 _ _ _ (O vv)).mono ?_;rintro e w2 ⟨rfl,rfl⟩;go_wp2_with fail;exact⟨rfl,lw (O HGW) ((O HS).symm.trans (O bm)) _⟩
    ·have h4':(0:Int)<i:=by omega
     have h5:((i:Int)==9)=false\/((i:Int)==9)=true:=by cases ((i:Int)==9) <;> simp
     clear qM;rcases h5 with h5|h5
     all_goals
      go_wp2_with fail;refine(fu B 3 _ _ _ (O vv)).mono ?_;rintro e w2 ⟨rfl,rfl⟩;go_wp2_with fail;exact⟨rfl,lw (O HGW) ((O HS).symm.trans (O bm)) _⟩
   ·have h9:i=9->c<=1:=fun h=>by omega
    have hor:=or_step c i u hi (O HU) jT jX h9;have xK:=step_lt c i u hi (O HU) jT jX h9;have hand:=and127b c jT jX;have h7:7*(i:Int)<=63:=by omega
    have ki:(((i:Int)==9)=false/\(i:Int)<=0)\/(((i:Int)==9)=false/\0<(i:Int)/\(c==0)=false)\/(((i:Int)==9)=true/\0<(i:Int)/\(c==0)=false/\c<=1):=by
     simp only[xe,beq_iff_eq];omega
    by_cases hc:c<128
    ·have qL:=U (O HY qM hc);have HLt:=U xK.1;clear qM xK h9;generalize u+(c % 128).toNat*128 ^ i=u' at *;rcases ki with⟨Z,Q⟩|⟨Z,Q,I⟩|⟨Z,Q,I,h4⟩
     all_goals
      go_wp2_with fail;refine(unfold_any u' _ (O HLt)).mono ?_;rintro e w2 ⟨rfl,rfl⟩;go_wp2_with fail;go_ret;exact numEnd_done (O HGW) ((O HS).symm.trans (O qL)) (O vv)
    ·have HNext:=U (O HN qM (by omega));have HLt:=U xK.2;have hi9:i<=8:=by omega
     clear qM xK h9;generalize u+(c % 128).toNat*128 ^ i=u' at *;rcases ki with⟨Z,Q⟩|⟨Z,Q,I⟩|⟨Z,Q,I,h4⟩
     ·go_wp2_with fail;go_roundw
      case rel=>exact⟨i+1,u',rfl,by go_num,by omega,O HLt,(O HNext).symm.trans (O HS),by omega,O vv,O HGW⟩
      case measure=>simp[intOf];omega
     ·go_wp2_with fail;go_roundw
      case rel=>exact⟨i+1,u',rfl,by go_num,by omega,O HLt,(O HNext).symm.trans (O HS),by omega,O vv,O HGW⟩
      case measure=>simp[intOf];omega
     ·omega
  ·go_wp2_with fail;refine(iO B 1 ((k+i:Nat):Int) _ _ _ _ (O qj) (by omega) (by omega) (by omega) (by omega) (by omega)).mono ?_;rintro e w1 ⟨rfl,q,rfl⟩;go_wp2_with fail;have qk:=(O HS).symm.trans (scan_end _ _ _ _ hi (by omega));exact⟨rfl,lw (zr (O vu) (ef _ _ _)) qk _⟩
def dM (c k:Int):Value:=.iface 152 (.agg #[H c,H k])
theorem ta_fault (c k:Int)(w:World):(Instr.typeAssert (.iface 152 (.agg #[H c,H k])) 20 127 true).run Tryz.prog w =
  .ok (.tuple #[.iface 152 (.agg #[H c,H k]),.bool true]) w:=by kernel_rfl
theorem ta_nil (w:World):(Instr.typeAssert .nilIface 20 127 true).run Tryz.prog w = .ok (.tuple #[.nilIface,.bool false]) w:=by kernel_rfl
theorem gZ {B C:Nat}{w w':World}{v:Value}{k:Int}(h:Rdr B w v k)(K:Below C w w')(hB:B<C):Rdr B w' v k:=
 ⟨(K.cell (p:=⟨B,0,none⟩) hB).trans h.1,(K.cell (p:=⟨B,1,none⟩) hB).trans h.2,(K.frozen (p:=⟨B,1,none⟩) hB).trans h.3⟩
theorem rdr_grown {B g:Nat}{w w':World}{v:Value}{k:Int}(h:Rdr B w v k)(K:w.grownBy w' (some g))(xE:B≠g):Rdr B w' v k:=by
 have xK:=yL w _ h.1;have hblk:=K.block B xK (by simpa using xE);exact⟨(yR (a:=⟨B,0,none⟩) hblk).trans h.1,(yR (a:=⟨B,1,none⟩) hblk).trans h.2,(World.frozen?_of_block (a:=⟨B,1,none⟩) hblk).trans h.3⟩
def eJ (v:Value):Prop:=∀a n c,v = .slice a n c->n<=c
theorem rdr_new (w:World)(v:Value)(k:Int):Rdr w.heap.size (w.alloc (.cells #[v,H k] 125)) v k:=
 ⟨by simp,by simp,by simp⟩
end Go.Proofs.YtkofhemdefffpaaGreatDoor
namespace Go.Proofs.YtkofhemdefffpaaGreatDoor
open Go.RowKit Go.Extern.Stop Go.Stop Go.Extern
set_option linter.unusedVariables false
def hnd (t:Nat):Value:=.pointer (some ⟨2,t,none⟩)
theorem valueOfP (t:Addr)(w:World):(ReflectliteValue.unpack (.iface 154 (.pointer (some t)))).run Tryz.prog w
  = .ok (.agg #[.pointer (some ⟨2,154,none⟩),.pointer (some ⟨w.heap.size,0,none⟩),.int .u64 150]) (w.alloc (.cells #[.pointer (some t)] 154)):=by kernel_rfl
theorem typeP (a:Addr)(w:World):(ReflectliteValue.methodAny (ReflectliteValue.valueError "reflectlite.Value.Type" 0) (fun t _ _ _=>ReflectliteType.toType t) #[.agg #[.pointer (some ⟨2,154,none⟩),.pointer (some a),.int .u64 150]]).run Tryz.prog w
  = .ok (.iface 224 (.agg #[.pointer (some ⟨2,154,none⟩)])) w:=by kernel_rfl
theorem methodKind (h:Value)(w:World):(Go.method 411 224 (.agg #[h]) "Kind").run Tryz.prog w = .ok (229,h) w:=by kernel_rfl
theorem kindP (w:World):((ReflectliteType.abiMethod fun t=>(fun a:Nat=>Value.int IntKind.u8 (a:Int)) <$> Rtype.kind t) #[.pointer (some ⟨2,154,none⟩)]).run Tryz.prog w = .ok (.int .u8 22) w:=by kernel_rfl
theorem kindF (w:World):((ReflectliteType.abiMethod fun t=>(fun a:Nat=>Value.int IntKind.u8 (a:Int)) <$> Rtype.kind t) #[.pointer (some ⟨2,152,none⟩)]).run Tryz.prog w = .ok (.int .u8 25) w:=by kernel_rfl
theorem rlm (z:Sem Value)(f:TypeId->Addr->Nat->Nat->Sem Value)(v:Value) :
  ReflectliteValue.method z f #[v]=(do match <- ReflectliteValue.parts v with|none=>z|some (t,a,fl)=>f t a fl (fl % 32)):=rfl
theorem partsP (a:Addr)(w:World):(ReflectliteValue.parts (.agg #[.pointer (some ⟨2,154,none⟩),.pointer (some a),.int .u64 150])).run Tryz.prog w = .ok (some (154,a,150)) w:=by kernel_rfl
theorem isNilP (a p:Addr)(W:World)(ha:W.cell? a=some (.pointer (some p))) :
  (ReflectliteValue.method (ReflectliteValue.valueError "reflectlite.Value.IsNil" 0) ReflectliteValue.isNil #[.agg #[.pointer (some ⟨2,154,none⟩),.pointer (some a),.int .u64 150]]).run Tryz.prog W = .ok (.bool false) W:=by
 rw[rlm];simp only[Sem.run_bind,partsP,Result.andThen];simp[ReflectliteValue.isNil,loadVar,isAgg,underlying,Tryz.underlying154,ha,Result.andThen]
theorem methodElem (h:Value)(w:World):(Go.method 411 224 (.agg #[h]) "Elem").run Tryz.prog w = .ok (242,.agg #[h]) w:=by kernel_rfl
theorem methodImplements (h:Value)(w:World):(Go.method 411 224 (.agg #[h]) "Implements").run Tryz.prog w = .ok (243,.agg #[h]) w:=by kernel_rfl
theorem methodAssignableTo (h:Value)(w:World):(Go.method 411 224 (.agg #[h]) "AssignableTo").run Tryz.prog w = .ok (240,.agg #[h]) w:=by kernel_rfl
theorem elemP (w:World):(ReflectliteType.method ReflectliteType.elem #[.agg #[.pointer (some ⟨2,154,none⟩)]]).run Tryz.prog w = .ok (.iface 224 (.agg #[.pointer (some ⟨2,152,none⟩)])) w:=by kernel_rfl
theorem implementsF (w:World):(ReflectliteType.relation "Implements" ReflectliteType.implements_ #[.agg #[.pointer (some ⟨2,152,none⟩)],.iface 224 (.agg #[.pointer (some ⟨2,127,none⟩)])]).run Tryz.prog w = .ok (.bool true) w:=by kernel_rfl
theorem typeOfF (v:Value)(w:World):(ReflectliteType.typeOf #[.iface 152 v]).run Tryz.prog w = .ok (.iface 224 (.agg #[.pointer (some ⟨2,152,none⟩)])) w:=by kernel_rfl
theorem assignableF (w:World):(ReflectliteType.relation "AssignableTo" ReflectliteType.assignableTo #[.agg #[.pointer (some ⟨2,152,none⟩)],.iface 224 (.agg #[.pointer (some ⟨2,152,none⟩)])]).run Tryz.prog w = .ok (.bool true) w:=by kernel_rfl
theorem valueOfF (c k:Int)(w:World):(ReflectliteValue.unpack (.iface 152 (.agg #[H c,H k]))).run Tryz.prog w
  = .ok (.agg #[.pointer (some ⟨2,152,none⟩),.pointer (some ⟨w.heap.size,0,none⟩),.int .u64 153]) (w.alloc (.cells #[H c,H k] 152)):=by kernel_rfl
theorem elemOfP (w:World):(Rtype.elem? 154).run Tryz.prog w = .ok (some 152) w:=by kernel_rfl
theorem mkF (p:Addr)(w:World):(ReflectliteValue.mk 152 p ReflectliteValue.flagAddr).run Tryz.prog w = .ok (.agg #[.pointer (some ⟨2,152,none⟩),.pointer (some p),.int .u64 409]) w:=by kernel_rfl
theorem elemVP (a p:Addr)(W:World)(ha:W.cell? a=some (.pointer (some p))) :
  (ReflectliteValue.method (ReflectliteValue.valueError "reflectlite.Value.Elem" 0) ReflectliteValue.elem #[.agg #[.pointer (some ⟨2,154,none⟩),.pointer (some a),.int .u64 150]]).run Tryz.prog W
   = .ok (.agg #[.pointer (some ⟨2,152,none⟩),.pointer (some p),.int .u64 409]) W:=by
 rw[rlm];simp only[Sem.run_bind,partsP,Result.andThen];simp[ReflectliteValue.elem,loadVar,isAgg,underlying,Tryz.underlying154,ha,Result.andThen,elemOfP,mkF]
theorem partsFa (a:Addr)(w:World):(ReflectliteValue.parts (.agg #[.pointer (some ⟨2,152,none⟩),.pointer (some a),.int .u64 409])).run Tryz.prog w = .ok (some (152,a,409)) w:=by kernel_rfl
theorem partsF (a:Addr)(w:World):(ReflectliteValue.parts (.agg #[.pointer (some ⟨2,152,none⟩),.pointer (some a),.int .u64 153])).run Tryz.prog w = .ok (some (152,a,153)) w:=by kernel_rfl
theorem directF (w:World):(Rtype.directlyAssignable 152 152).run Tryz.prog w = .ok true w:=by kernel_rfl
end Go.Proofs.YtkofhemdefffpaaGreatDoor
namespace Go.Proofs.YtkofhemdefffpaaGreatDoor
open Go.RowKit Go.Extern.Stop Go.Stop Go.Extern
set_option linter.unusedVariables false
theorem load2 {P:Program}(V:Nat)(x y:Value)(W:World)(hv0:W.cell? ⟨V,0,none⟩=some x)(hv1:W.cell? ⟨V,1,none⟩=some y) :
  (loadCellsFrom ⟨V,0,none⟩ 0 2 #[]).run P W = .ok #[x,y] W:=by
 simp[loadCellsFrom,hv0,hv1,Addr.add,Result.andThen]
theorem store2 {P:Program}(hg:Nat)(c k:Int)(x0 x1:Value)(W:World)
  (hf0:W.cell? ⟨hg,0,none⟩=some x0) (bT:W.cell? ⟨hg,1,none⟩=some x1) (ub:W.frozen? ⟨hg,0,none⟩=false) (xX:W.frozen? ⟨hg,1,none⟩=false) :
  (storeCells ⟨hg,0,none⟩ [H c,H k]).run P W = .ok () ((W.setCell ⟨hg,0,none⟩ (H c)).setCell ⟨hg,1,none⟩ (H k)):=by
 have Z:(W.setCell ⟨hg,0,none⟩ (H c)).cell? ⟨hg,1,none⟩=some x1:=by
  rw[yM _ _ _ _ (zV (by omega))];exact bT
 have Q:(W.setCell ⟨hg,0,none⟩ (H c)).frozen? ⟨hg,1,none⟩=false:=by rw[World.frozen?_setCell];exact xX
 simp only[storeCells,Sem.run_bind,Addr.add];rw[run_store P W _ _ _ (by rfl)];simp[hf0,ub,Result.andThen];rw[run_store P _ _ _ _ (by rfl)];simp[Z,Q]
theorem set_two {α:Type}(f:Value->Value->α)(g:Array Value->α)(v x:Value) :
  ReflectliteValue.set.match_3 (fun _=>α) #[v,x] f g=f v x:=rfl
theorem setF (hg V:Nat)(c k:Int)(x0 x1:Value)(W:World)(hv0:W.cell? ⟨V,0,none⟩=some (H c))(hv1:W.cell? ⟨V,1,none⟩=some (H k))
  (hf0:W.cell? ⟨hg,0,none⟩=some x0) (bT:W.cell? ⟨hg,1,none⟩=some x1) (ub:W.frozen? ⟨hg,0,none⟩=false) (xX:W.frozen? ⟨hg,1,none⟩=false) :
  (ReflectliteValue.set #[.agg #[.pointer (some ⟨2,152,none⟩),.pointer (some ⟨hg,0,none⟩),.int .u64 409],.agg #[.pointer (some ⟨2,152,none⟩),.pointer (some ⟨V,0,none⟩),.int .u64 153]]).run Tryz.prog W
   = .ok (.tuple #[]) ((W.setCell ⟨hg,0,none⟩ (H c)).setCell ⟨hg,1,none⟩ (H k)):=by
 unfold ReflectliteValue.set;rw[set_two];simp only[Sem.run_bind,partsFa,partsF,Result.andThen];simp[ReflectliteValue.flagAddr,loadVar,loadCells,Result.andThen,directF,storeVar,Value.cells];rw[load2 V _ _ W hv0 hv1];simp;rw[store2 hg c k x0 x1 W hf0 bT ub xX]
end Go.Proofs.YtkofhemdefffpaaGreatDoor
namespace Go.Proofs.YtkofhemdefffpaaGreatDoor
open Go.RowKit
def sumL (l:List Int)(uQ:Int):Int:=l.foldl (fun s c=>(31*s+c+1) % 65521) uQ
theorem gF (l:List Int)(uQ:Int)(h0:0<=uQ)(Z:uQ<65521):0<=sumL l uQ/\sumL l uQ<65521:=by
 induction l generalizing uQ with
 | nil=>exact⟨h0,Z⟩
 | cons c r ih=>exact ih _ (Int.emod_nonneg _ (by decide)) (Int.emod_lt_of_pos _ (by decide))
theorem sumL_snoc (l:List Int)(x uQ:Int):sumL (l ++ [x]) uQ=(31*sumL l uQ+x+1) % 65521:=by
 unfold sumL;rw[List.foldl_append];rfl
def sumOf (l:List Int)(uQ:Int):Int:=if uQ<0\/65521<=uQ\/65536<l.length then 0 else sumL l uQ
theorem sumL_take (l:List Int)(uQ:Int)(k:Nat)(h:k<l.length):sumL (l.take (k+1)) uQ=(31*sumL (l.take k) uQ+l.getD k 0+1) % 65521:=by
 rw[take_get l k h,sumL_snoc]
theorem implSum_any (v:Value)(l:List Int)(uQ:Int)(w:World)(hr:Rd w v l)(K:Bts l) :
  Calls Tryz.prog 68 #[v,H uQ] w fun e w'=>e=yn (H (sumOf l uQ))/\w'=w:=by
 obtain⟨a,cap,rfl,hl,hc⟩:=hr
 by_cases qM:uQ<0\/65521<=uQ\/65536<l.length
 ·have HF:=U (show sumOf l uQ=0 from if_pos qM);rcases Int.lt_or_le uQ 0 with Z|Z
  ·go_enter Tryz.func68,Tryz.ntmps68;go_wp2_with fail;go_ret;exact⟨zt (O HF).symm,rfl⟩
  ·rcases Int.lt_or_le uQ 65521 with Q|Q
   ·have I:(65536:Int)<l.length:=by omega
    go_enter Tryz.func68,Tryz.ntmps68;go_wp2_with fail;go_ret;exact⟨zt (O HF).symm,rfl⟩
   ·go_enter Tryz.func68,Tryz.ntmps68;go_wp2_with fail;go_ret;exact⟨zt (O HF).symm,rfl⟩
 ·have HF:=U (show sumOf l uQ=sumL l uQ from if_neg qM);have Z:0<=uQ:=by omega
  have Q:uQ<65521:=by omega
  have I:(l.length:Int)<=65536:=by omega
  have HC:=U hc;have HB:=U K;clear hc K qM;go_enter Tryz.func68,Tryz.ntmps68;go_wp2_with fail
  go_loop [5,22] (fun s i=>∃k:Nat,k<=l.length/\i=H k/\s=H (sumL (l.take k) uQ)) (fun _ i=>l.length-(intOf i).toNat)
  case atStart=>exact⟨0,Nat.zero_le _,rfl,rfl⟩
  case round =>
   obtain⟨k,E,rfl,rfl⟩:=hrel
   by_cases xK:k<l.length
   ·obtain⟨b,off,rfl,xp⟩:=O HC (by intro h;rw[h] at xK;simp at xK);have hck:=xp k xK;have hbk:=gk (O HB) k;have hsb:=gF (l.take k) uQ Z Q;have HS:=U (sumL_take l uQ k xK);have ux:(k:Int)<l.length:=by omega
    clear xp;generalize l.getD k 0=x at *;generalize sumL (l.take k) uQ=s at *;obtain⟨hx0,hx1⟩:=hbk;obtain⟨jo,xG⟩:=hsb;go_wp2_with fail
    go_round
    case rel=>exact⟨k+1,by omega,by go_num,by rw[O HS]⟩
    case measure=>simp[intOf];omega
   ·have HT:=U (show l.take k=l from xa (by omega));go_wp2_with fail;go_ret;exact⟨zt (by rw[O HT];exact(O HF).symm),rfl⟩
theorem l01Sum_any (v:Value)(l:List Int)(uQ:Int)(w:World)(hr:Rd w v l)(K:Bts l)(Z:0<=uQ)(Q:uQ<65521) :
  Calls Tryz.prog 19 #[v,H uQ] w fun e w'=>e=yn (H (sumL l uQ))/\w'=w:=by
 obtain⟨a,cap,rfl,hl,hc⟩:=hr;have HC:=U hc;have HB:=U K;clear hc K;go_enter Tryz.func19,Tryz.ntmps19;go_wp2_with fail
 go_loop [1,5] (fun s i=>∃k:Nat,k<=l.length/\i=H k/\s=H (sumL (l.take k) uQ)) (fun _ i=>l.length-(intOf i).toNat)
 case atStart=>exact⟨0,Nat.zero_le _,rfl,rfl⟩
 case round =>
  obtain⟨k,E,rfl,rfl⟩:=hrel
  by_cases xK:k<l.length
  ·obtain⟨b,off,rfl,xp⟩:=O HC (by intro h;rw[h] at xK;simp at xK);have hck:=xp k xK;have hbk:=gk (O HB) k;have hsb:=gF (l.take k) uQ Z Q;have HS:=U (sumL_take l uQ k xK);have ux:(k:Int)<l.length:=by omega
   clear xp;generalize l.getD k 0=x at *;generalize sumL (l.take k) uQ=s at *;obtain⟨hx0,hx1⟩:=hbk;obtain⟨jo,xG⟩:=hsb;go_wp2_with fail
   go_round
   case rel=>exact⟨k+1,by omega,by go_num,by rw[O HS,Int.mul_comm]⟩
   case measure=>simp[intOf];omega
  ·have HT:=U (show l.take k=l from xa (by omega));go_wp2_with fail;go_ret;exact⟨zt (by rw[O HT]),rfl⟩
end Go.Proofs.YtkofhemdefffpaaGreatDoor
