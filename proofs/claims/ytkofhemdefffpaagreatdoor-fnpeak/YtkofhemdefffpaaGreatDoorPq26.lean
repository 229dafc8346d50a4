/-.-/
import Derived.Test.YtkofhemdefffpaaGreatDoorPq25
set_option linter.unusedVariables false
set_option maxHeartbeats 6400000
set_option maxRecDepth 100000
namespace Go.Proofs.YtkofhemdefffpaaGreatDoor
open Go.RowKit
theorem fl8_bts (u:Nat):Bts (fl8 u):=by
 intro x hx;simp only[fl8,List.mem_cons,List.not_mem_nil,or_false] at hx;omega
theorem ij (u m n:Nat)(ym:Int)(hM:ym=(m:Int))(hn:n=m*256):shl8 (u / n) ((u:Int) / ym % 256)=u / m:=by
 subst hM hn;unfold shl8;rw[<- Int.natCast_ediv,<- Nat.div_div_eq_div_mul];generalize u / m=q;omega
theorem fl8_back (u:Nat)(h:u<18446744073709551616):(fl8 u).foldl shl8 0=u:=by
 have s0:=ij u 72057594037927936 18446744073709551616 72057594037927936 rfl rfl;rw[Nat.div_eq_of_lt h] at s0;have s1:=ij u 281474976710656 72057594037927936 281474976710656 rfl rfl;have s2:=ij u 1099511627776 281474976710656 1099511627776 rfl rfl;have s3:=ij u 4294967296 1099511627776 4294967296 rfl rfl;have s4:=ij u 16777216 4294967296 16777216 rfl rfl;have s5:=ij u 65536 16777216 65536 rfl rfl;have s6:=ij u 256 65536 256 rfl rfl;have s7:shl8 (u / 256) ((u:Int) % 256)=u:=by unfold shl8;omega
 simp only[fl8,List.foldl_cons,List.foldl_nil];rw[s0,s1,s2,s3,s4,s5,s6,s7]
theorem fbit_lt (x:Nat)(h:x<18446744073709551616):fbit x<18446744073709551616:=by
 unfold fbit;split <;> omega
theorem fbit_nan (x:Nat):¬ (nanB (fbit x)=true/\fbit x≠9221120237041090560):=by
 rintro⟨Z,Q⟩
 by_cases h:nanB x=true
 ·exact Q (if_pos h)
 ·rw[show fbit x=x from if_neg h] at Z;exact h Z
theorem scan_putR (l r:List Int)(k:Nat):∀(f x i acc:Nat),f=10-i->i<=9->l.drop (k+i)=putU x++r->acc+x*128 ^ i<18446744073709551616->(0<i->0<x) ->
  scan l k f i acc=some (acc+x*128 ^ i,k+i+(putU x).length)
 | 0,x,i,acc,hf,hi,_,_,_=>by omega
 | f+1,x,i,acc,hf,hi,hd,xK,jL=>by
  have h9:i=9->x<=1:=by
   intro e;subst e;have e9:(128:Nat) ^ 9=9223372036854775808:=by decide
   rw[e9] at xK;omega
  by_cases hx:x<128
  ·rw[iE hx] at hd |-;obtain⟨Z,Q,_⟩:=drop_head hd;rw[scan,if_neg (by omega),Q,if_neg (by omega),if_pos (by omega)];have e:((x:Int) % 128).toNat=x:=by omega
   rw[e];rfl
  ·rw[iY hx] at hd |-;rw[List.cons_append] at hd;obtain⟨Z,Q,I⟩:=drop_head hd;rw[scan,if_neg (by omega),Q,if_neg (by omega),if_neg (by omega)];have e:(((x:Int) % 128+128) % 128).toNat=x % 128:=by omega
   have e2:acc+x % 128*128 ^ i+x / 128*128 ^ (i+1)=acc+x*128 ^ i:=by
    rw[Nat.pow_succ,Nat.mul_comm (128 ^ i) 128,<- Nat.mul_assoc,Nat.add_assoc,<- Nat.add_mul,Nat.mod_add_div']
   rw[e,scan_putR l r k f (x / 128) (i+1) _ (by omega) (by omega) I (by rw[e2];exact xK) (by omega),e2];simp only[List.length_cons];congr 2;omega
theorem getU_putR (a r:List Int)(u:Nat)(h:u<18446744073709551616):getU (a++(putU u++r)) a.length=some (u,a.length+(putU u).length):=by
 have:=scan_putR (a++(putU u++r)) r a.length 10 u 0 0 rfl (by omega) (by simp) (by omega) (by omega);simpa[getU] using this
theorem floatA_wr (a r:List Int)(x:Nat)(h:x<18446744073709551616):eD (a++(fl8 (fbit x)++r)) a.length=some (fbit x,a.length+8):=by
 have K:dR (a++(fl8 (fbit x)++r)) a.length 8=fbit x:=by
  unfold dR;rw[List.drop_left,List.take_left' (gm _)];exact fl8_back _ (fbit_lt x h)
 rw[floatA_yes (by simp[gm]) (by rw[K];exact fbit_nan x),K]
theorem byte_push (l:List UInt8):∀s:ByteArray,((l.map fun b=>(b.toNat:Int)).foldl (fun r n=>r.push (UInt8.ofNat n.toNat)) s).data.toList=s.data.toList++l:=by
 induction l with
 | nil=>intro s;simp
 | cons b l ih =>
  intro s;rw[List.map_cons,List.foldl_cons,ih];simp[ByteArray.push]
theorem strB_bl (s:ByteArray):strB (bl s)=s:=by
 have h:=byte_push s.data.toList ByteArray.empty;unfold strB bl;generalize List.foldl _ _ _ = t at h |-;obtain⟨⟨d⟩⟩:=t;obtain⟨⟨e⟩⟩:=s;simp only at h;have:d=e:=h;rw[this]
theorem textA_wr (a r:List Int)(s:ByteArray):eg (a++(dZ s++r)) a.length=some (cutB s,a.length+(dZ s).length):=by
 have hc:=gL s;have hz:=dy ((cutB s).size:Int) (by omega) (by omega);have hu:=getU_putR a (bl (cutB s)++r) (zz (cutB s).size) hz;have e:a++(dZ s++r)=a++(putU (zz (cutB s).size)++(bl (cutB s)++r)):=by unfold dZ;simp
 rw[e,textA_yes hu (by
  rw[unz_zz];simp only[yQ,bl_len];omega),unz_zz]
 have e2:(a++(putU (zz (cutB s).size)++(bl (cutB s)++r))).drop (a.length+(putU (zz (cutB s).size)).length)=bl (cutB s)++r:=by
  rw[<- List.append_assoc,List.drop_left' (by simp)]
 rw[e2,Int.toNat_natCast,List.take_left' (bl_len _),strB_bl];simp only[dZ,yQ,bl_len];congr 2;omega
def bkF (e:Ev)(o:Nat):Value:=if o=7 then yk (fbit e.cmd.p) else if o=8 then yl (cutB e.cmd.g) else H (e.num o)
theorem rdF_wr (e:Ev)(he:e.fit)(o:Nat)(a r:List Int):rdF o (a++(wrF e o++r)) a.length=some (bkF e o,a.length+(wrF e o).length):=by
 unfold rdF wrF bkF;split
 ·rw[floatA_wr a r _ he.p,gm];rfl
 ·split
  ·rw[textA_wr];rfl
  ·rw[getU_putR a r _ (dy _ (he.n o).1 (he.n o).2)];simp only[Option.map_some,unz_zz]
theorem rdEs_wr (e:Ev)(he:e.fit):∀(os:List Nat) (x:Ev) (a r:List Int),rdEs os x (a++(os.flatMap (wrF e)++r)) a.length=some (os.foldl (fun x o=>x.put o (bkF e o)) x,a.length+(os.flatMap (wrF e)).length)
 | [],x,a,r=>by simp[rdEs]
 | o::os,x,a,r=>by
  have Z:=rdF_wr e he o a (os.flatMap (wrF e)++r);have Q:=rdEs_wr e he os (x.put o (bkF e o)) (a++wrF e o) r;rw[List.flatMap_cons,List.append_assoc,gO Z];rw[List.append_assoc,yQ] at Q;rw[Q,List.foldl_cons,yQ,Nat.add_assoc]
def bkE (e:Ev):Ev:=(shF e.kind).foldl (fun x o=>x.put o (bkF e o)) (ev0 e.kind)
theorem evA_wr (e:Ev)(he:e.fit)(E:shF e.kind ≠ [])(r:List Int):evA (evL e++r) 0=some (bkE e,(evL e).length):=by
 have h:=rdEs_wr e he (shF e.kind) (ev0 e.kind) [e.kind] r;have e1:(evL e++r).getD 0 0=e.kind:=rfl;rw[evA_yes (by simp[evL]) (by rw[e1];exact E),e1];have e2:evL e++r = [e.kind]++((shF e.kind).flatMap (wrF e)++r):=by simp[evL]
 rw[e2,show(0:Nat)+1 = [e.kind].length from rfl,h];simp[bkE,evL];omega
theorem im (e:Ev)(he:e.fit):0<(evL e).length/\(evL e).length<=208:=by
 have Z:=flat_le e he (shF e.kind);have Q:=shF_len e.kind;unfold evL;rw[List.length_cons];omega
theorem textL_bts (s:ByteArray):Bts (dZ s):=by
 intro x hx;rcases List.mem_append.1 hx with h|h
 ·exact putU_bts _ x h
 ·obtain⟨b,_,rfl⟩:=List.mem_map.1 h;have:=b.toNat_lt;omega
theorem evL_bts (e:Ev)(E:1<=e.kind/\e.kind<=9):Bts (evL e):=by
 intro x hx;rcases List.mem_cons.1 hx with rfl|h
 ·omega
 ·obtain⟨o,_,D⟩:=List.mem_flatMap.1 h;unfold wrF at D;split at D
  ·exact fl8_bts _ x D
  ·split at D
   ·exact textL_bts _ x D
   ·exact putU_bts _ x D
theorem shF_ne (k:Int):shF k ≠ [] ↔ 1<=k/\k<=9:=by
 unfold shF
 repeat' split
 all_goals simp
 all_goals omega
def fT (c:Cm):Bool:=(c.k==0)&&((c.s==0)&&((c.t==0)&&((c.l==0)&&((c.q==0)&&((c.i==0)&&((fbit c.p==0)&&decide (c.g.toList = [])))))))
def fldK (k:Int):List Bool:=if k=1 then[true,false,false,false,false] else if k=2 then[false,false,false,false,true] else if k=3 then[true,true,true,true,false] else if k=4\/k=5\/k=6\/k=7\/k=9 then[true,false,true,false,false] else if k=8 then[false,false,true,false,false] else[]
def dw (e:Ev):List Int:=[e.id,e.other,e.qty,e.price,e.reason]
def eE (fs:List Bool)(ns:List Int):Bool:=(List.range 5).all fun i=>fs.getD i false||(ns.getD i 0==0)
def okE (e:Ev):Bool:=if fldK e.kind = [] then false else if eE (fldK e.kind) (dw e)=false then false else
 if e.kind=1 then(e.cmd.k==1)&&((e.cmd.i==0)&&decide (e.cmd.g.size<=13)) else if e.kind=2 then decide (e.cmd.g.size<=13) else fT e.cmd
theorem fbit_two (x:Nat):fbit (fbit x)=fbit x:=by
 unfold fbit
 repeat' split
 all_goals first|rfl|(exfalso;simp_all)
theorem gz:fbit 0=0:=by
 have h:nanB 0=false:=by decide +kernel
 unfold fbit;rw[h];rfl
theorem cutB_same (s:ByteArray):(cutB s).toList=s.toList ↔ s.size<=13:=by
 by_cases h:s.size<=12
 ·rw[show cutB s=s from if_neg (by omega)];exact⟨fun _=>by omega,fun _=>rfl⟩
 ·by_cases Z:s.size=13
  ·rw[cutB_one s Z];exact⟨fun _=>by omega,fun _=>rfl⟩
  ·refine⟨fun e=>?_,fun e=>by omega⟩;rw[Go.ByteArray.toList_eq,Go.ByteArray.toList_eq] at e;have e2:=congrArg List.length e;have I:=gL s;have h4:(cutB s).data.toList.length=(cutB s).size:=rfl;have h5:s.data.toList.length=s.size:=rfl;omega
theorem okE_eq (e:Ev)(E:1<=e.kind/\e.kind<=9):sameE (bkE e) e=okE e:=by
 obtain⟨xn,⟨ck,cs,ct,cl,cq,ci,cp,cg⟩,id,xj,qty,xk,xi⟩:=e;simp only at E;rcases(show xn=1\/xn=2\/xn=3\/xn=4\/xn=5\/xn=6\/xn=7\/xn=8\/xn=9 by omega) with rfl|rfl|rfl|rfl|rfl|rfl|rfl|rfl|rfl
 all_goals
  rw[Bool.eq_iff_iff];simp[sameE,okE,fldK,eE,dw,fbit_two,cutB_same,List.range_succ,bkE,shF,ev0,shC,bkF,Ev.put,Ev.num,fT,gz]
  try grind
theorem toldCmd_all (e:Ev)(w:World):Calls Tryz.prog 107 #[evV e] w fun r w'=>r=yn (.tuple #[cmV (da e),.bool (iw e.kind)])/\yp w w':=by
 have hsf:=sfl;obtain⟨xn,⟨ck,cs,ct,cl,cq,ci,cp,cg⟩,id,xj,qty,xk,xi⟩:=e;unfold evV da cmV zCm iw;simp only
 by_cases E:xn=1\/xn=2\/xn=6\/xn=7\/xn=8
 ·rcases E with rfl|rfl|rfl|rfl|rfl
  all_goals
   simp;go_enter Tryz.func107,Tryz.ntmps107;go_wp2_with fail;go_returns;exact⟨rfl,by go_grown⟩
 ·have Z:(xn==1)=false:=by simp;omega
  have Q:(xn==2)=false:=by simp;omega
  have h6:(xn==6)=false:=by simp;omega
  have h7:(xn==7)=false:=by simp;omega
  have h8:(xn==8)=false:=by simp;omega
  rw[if_neg (by omega),if_neg (by omega),if_neg (by omega),if_neg (by omega),if_neg (by omega),Z,Q,h6,h7,h8];clear E;simp;go_enter Tryz.func107,Tryz.ntmps107;go_wp2_with fail;go_returns;exact⟨rfl,by go_grown⟩
theorem toldCmd_any (e:Ev)(w:World)(E:1<=e.kind/\e.kind<=9):Calls Tryz.prog 107 #[evV e] w fun r w'=>r=yn (.tuple #[cmV (da e),.bool (iw e.kind)])/\yp w w':=toldCmd_all e w

end Go.Proofs.YtkofhemdefffpaaGreatDoor
