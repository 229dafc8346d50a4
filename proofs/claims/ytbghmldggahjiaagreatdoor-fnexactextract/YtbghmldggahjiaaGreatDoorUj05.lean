/-.-/
import Derived.Test.YtbghmldggahjiaaGreatDoorUj04
import Derived.Lib.AppendStr
set_option linter.unusedVariables false
set_option maxHeartbeats 6400000
set_option maxRecDepth 100000
namespace Go.Proofs.YtbghmldggahjiaaGreatDoor
open Go.RowKit
structure Ev where
 kind:Int
 cmd:Cm
 id:Int
 other:Int
 qty:Int
 price:Int
 reason:Int
def cmV (c:Cm):Value:=.agg (yx c.k c.s c.t c.l c.q c.i c.p c.g).toArray
def evV (e:Ev):Value:=.agg (yv e.kind e.cmd.k e.cmd.s e.cmd.t e.cmd.l e.cmd.q e.cmd.i e.cmd.p e.cmd.g e.id e.other e.qty e.price e.reason).toArray
def vlV (e:Ev):Value:=.agg #[H e.kind,H e.id,H e.other,H e.qty,H e.price,H e.reason,H e.cmd.k,H e.cmd.s,H e.cmd.t,H e.cmd.l,H e.cmd.q,H e.cmd.i,.int .u64 (fbit e.cmd.p),yk e.cmd.g]
def Ev.vs (e:Ev):List Value:=(yv e.kind e.cmd.k e.cmd.s e.cmd.t e.cmd.l e.cmd.q e.cmd.i e.cmd.p e.cmd.g e.id e.other e.qty e.price e.reason)
theorem Ev.len (e:Ev):e.vs.length=14:=rfl
def zCm:Cm:=⟨0,0,0,0,0,0,0,⟨#[]⟩⟩
def Ev.put (e:Ev)(o:Nat)(x:Value):Ev:=match o,x with
 | 1,.int _ z=>{ e with cmd:={ e.cmd with k:=z } }
 | 2,.int _ z=>{ e with cmd:={ e.cmd with s:=z } }
 | 3,.int _ z=>{ e with cmd:={ e.cmd with t:=z } }
 | 4,.int _ z=>{ e with cmd:={ e.cmd with l:=z } }
 | 5,.int _ z=>{ e with cmd:={ e.cmd with q:=z } }
 | 6,.int _ z=>{ e with cmd:={ e.cmd with i:=z } }
 | 7,.float _ p=>{ e with cmd:={ e.cmd with p:=p } }
 | 8,.string s=>{ e with cmd:={ e.cmd with g:=s } }
 | 9,.int _ z=>{ e with id:=z }
 | 10,.int _ z=>{ e with other:=z }
 | 11,.int _ z=>{ e with qty:=z }
 | 12,.int _ z=>{ e with price:=z }
 | 13,.int _ z=>{ e with reason:=z }
 | _,_=>e
def TyO (o:Nat)(x:Value):Prop:=if o=7 then ∃p,x=yj p else if o=8 then ∃s,x=yk s else ∃z,x=H z
def EvO (o:Nat):Prop:=o=7\/o=8\/plcO o=true
theorem evs_put {o:Nat}{x:Value}(e:Ev)(K:EvO o)(hx:TyO o x):e.vs.set o x=(e.put o x).vs:=by
 unfold EvO at K;unfold TyO at hx;rcases(show o=7\/o=8\/o=1\/o=2\/o=3\/o=4\/o=5\/o=6\/o=9\/o=10\/o=11\/o=12\/o=13 by simp[plcO] at K;omega) with rfl|rfl|rfl|rfl|rfl|rfl|rfl|rfl|rfl|rfl|rfl|rfl|rfl
 all_goals
  obtain⟨z,rfl⟩:=hx;rfl
theorem rdF_ty {o k n:Nat}{l:List Int}{x:Value}(h:rdF o l k=some (x,n)):TyO o x:=by
 unfold rdF at h;unfold TyO;split at h
 ·rw[if_pos ‹_›];obtain⟨⟨a,b⟩,D,E⟩:=Option.map_eq_some_iff.1 h;cases E;exact⟨_,rfl⟩
 ·rw[if_neg ‹_›];split at h
  ·rw[if_pos ‹_›];obtain⟨⟨a,b⟩,D,E⟩:=Option.map_eq_some_iff.1 h;cases E;exact⟨_,rfl⟩
  ·rw[if_neg ‹_›];obtain⟨⟨a,b⟩,D,E⟩:=Option.map_eq_some_iff.1 h;cases E;exact⟨_,rfl⟩
def rdEs:List Nat->Ev->List Int->Nat->Option (Ev × Nat)
 | [],e,_,k=>some (e,k)
 | o::os,e,l,k=>match rdF o l k with|none=>none|some (x,n)=>rdEs os (e.put o x) l n
theorem gK {o k:Nat}{os:List Nat}{e:Ev}{l:List Int}(h:rdF o l k=none):rdEs (o::os) e l k=none:=by rw[rdEs,h]
theorem gw {o k n:Nat}{os:List Nat}{e:Ev}{l:List Int}{x:Value}(h:rdF o l k=some (x,n)):rdEs (o::os) e l k=rdEs os (e.put o x) l n:=by rw[rdEs,h]
def ev0 (k:Int):Ev:=⟨k,⟨shC k,0,0,0,0,0,0,⟨#[]⟩⟩,0,0,0,0,0⟩
def evA (l:List Int)(k:Nat):Option (Ev × Nat):=
 if l.length<=k then none else if shF (l.getD k 0) = [] then none else rdEs (shF (l.getD k 0)) (ev0 (l.getD k 0)) l (k+1)
theorem evA_end {l:List Int}{k:Nat}(h:l.length<=k):evA l k=none:=if_pos h
theorem evA_no {l:List Int}{k:Nat}(h:k<l.length)(D:shF (l.getD k 0) = []):evA l k=none:=by unfold evA;rw[if_neg (by omega),if_pos D]
theorem evA_yes {l:List Int}{k:Nat}(h:k<l.length)(D:shF (l.getD k 0) ≠ []):evA l k=rdEs (shF (l.getD k 0)) (ev0 (l.getD k 0)) l (k+1):=by unfold evA;rw[if_neg (by omega),if_neg D]
theorem shF_evO (k:Int):∀o∈shF k,EvO o:=by
 intro o K;unfold shF at K
 repeat' split at K
 all_goals
  simp only[List.mem_cons,List.not_mem_nil,or_false] at K
  try (rcases K with rfl|rfl|rfl|rfl|rfl|rfl|rfl|rfl|rfl)
  try (rcases K with rfl|rfl|rfl|rfl|rfl|rfl|rfl)
  try (rcases K with rfl|rfl|rfl|rfl)
  try (rcases K with rfl|rfl)
  try subst K
  all_goals first|exact .inl rfl|exact .inr (.inl rfl)|exact .inr (.inr rfl)|exact K.elim
theorem set14 (W:World)(b:Nat)(v0 v1 v2 v3 v4 v5 v6 v7 v8 v9 v10 v11 v12 v13:Value):((((((((((((((W.setCell ⟨b,0,none⟩ v0).setCell ⟨b,1,none⟩ v1).setCell ⟨b,2,none⟩ v2).setCell ⟨b,3,none⟩ v3).setCell ⟨b,4,none⟩ v4).setCell ⟨b,5,none⟩ v5).setCell ⟨b,6,none⟩ v6).setCell ⟨b,7,none⟩ v7).setCell ⟨b,8,none⟩ v8).setCell ⟨b,9,none⟩ v9).setCell ⟨b,10,none⟩ v10).setCell ⟨b,11,none⟩ v11).setCell ⟨b,12,none⟩ v12).setCell ⟨b,13,none⟩ v13)=W.setCells b 0 [v0,v1,v2,v3,v4,v5,v6,v7,v8,v9,v10,v11,v12,v13]:=by
 simp only[World.setCells]
theorem iP {R b:Nat}{W:World}{v:Value}{n:Int}(us:List Value)(h:Rdr R W v n)(A:R≠b):Rdr R (W.setCells b 0 us) v n:=by
 have X:=ep b R A us 0 W;exact⟨(yQ (a:=⟨R,0,none⟩) X).trans h.1,(yQ (a:=⟨R,1,none⟩) X).trans h.2,(World.frozen?_of_block (a:=⟨R,1,none⟩) X).trans h.3⟩
theorem iR {R b:Nat}{w W:World}(us:List Value)(h:w.grownBy W (some R))(A:w.heap.size<=b):w.grownBy (W.setCells b 0 us) (some R):=by
 have D:=zg b ya us 0 W (Below.refl b W);exact⟨D.os.trans h.os,D.tape.trans h.tape,D.output.trans h.output,yN h.size D.size,fun i hi hR=>by rw[ep b i (by omega) us 0 W];exact h.block i hi hR⟩
def EvEnd (R:Nat)(v:Value)(w:World)(r:Option (Ev × Nat))(e:Ending)(w':World):Prop:=
 w.grownBy w' (some R)/\(∀x n,r=some (x,n)->e = .returned (evV x)/\Rdr R w' v n)/\(r=none->∃p,e = .panicked (eE 3 p))
theorem evEnd_fail {R:Nat}{v:Value}{w w':World}{r:Option (Ev × Nat)}(M:w.grownBy w' (some R))(hr:r=none)(p:Int):EvEnd R v w r (.panicked (eE 3 p)) w':=
 ⟨M,(fun _ _ h=>by rw[hr] at h;cases h),fun _=>⟨p,rfl⟩⟩
theorem evEnd_done {R:Nat}{v:Value}{w w':World}{r:Option (Ev × Nat)}{x:Ev}{n:Nat}(M:w.grownBy w' (some R))(hr:r=some (x,n))(h:Rdr R w' v n):EvEnd R v w r (.returned (evV x)) w':=
 ⟨M,(fun a b h'=>by rw[hr] at h';cases h';exact⟨rfl,h⟩),(fun h'=>by rw[hr] at h';cases h')⟩
theorem ffs_get {W:World}{B:Nat}:∀ {os:List Nat} {fs:List Fc},FFs W B os fs->os.length=fs.length/\∀(i:Nat) (c:Fc),fs[i]? = some c->∃o:Nat,os[i]? = some o/\FF W B o c
 | [],[],_=>⟨rfl,fun i c h=>by simp at h⟩
 | o::os,c::cs,h=>by
  have ih:=ffs_get h.2;refine⟨by simp[ih.1],fun i d hd=>?_⟩;cases i with
  | zero=>simp at hd;subst hd;exact⟨o,rfl,h.1⟩
  | succ i=>simpa using ih.2 i d (by simpa using hd)
 | [],c::cs,h=>h.elim
 | o::os,[],h=>h.elim
theorem rdF_num {o k:Nat}{l:List Int}(h:plcO o=true):rdF o l k=(getU l k).map fun x=>(H (unz x.1),x.2):=by
 unfold plcO at h;unfold rdF;rw[if_neg (by intro e;subst e;simp at h),if_neg (by intro e;subst e;simp at h)]
theorem plc_enter (o:Nat)(h:plcO o=true)(args:Array Value)(W:World):(callFunc (plcV o) args).run Tryz.prog W = .ok (.enter (plcV o) args) W:=by
 rcases(show o=1\/o=2\/o=3\/o=4\/o=5\/o=6\/o=9\/o=10\/o=11\/o=12\/o=13 by simp[plcO] at h;omega) with rfl|rfl|rfl|rfl|rfl|rfl|rfl|rfl|rfl|rfl|rfl
 all_goals kernel_rfl
theorem readNum_any (wb:World)(R h2 b o:Nat)(v:Value)(l:List Int)(k:Nat)(vs:List Value)(W:World)(hs:RSr wb R v l k W)(hx:Bx W h2 vs)(hE:R<h2)(K:plcO o=true)(hv:vs.length=14)(hbR:R≠b)(hc:W.cell? ⟨b,0,none⟩=some (.func (.func (plcV o)) #[] #[])) :
  Calls Tryz.prog 211 #[.pointer (some ⟨R,0,none⟩),.pointer (some ⟨h2,0,none⟩),.pointer (some ⟨b,0,none⟩)] W fun e w'=>FdEnd wb R h2 v l o vs W (rdF o l k) e w':=by
 have kR:o<vs.length:=by unfold plcO at K;simp at K;omega
 have HP:=Q (fun W=>plc_any o h2 W K);have hpe:=plc_enter o K;have HF:=Q (rdF_num (l:=l) (k:=k) K);have HS:=Q hs;have HX:=Q hx;have HV:=Q hv;clear hs hx K hv;generalize plcV o=f at *;go_enter Tryz.func211,Tryz.ntmps211;go_wp2_with fail;refine(Z HP _).mono ?_;rintro e w1 ⟨rfl,ju⟩;rw[ju];clear ju;go_wp2_with fail;refine(number_rs (Z HS)).mono ?_;rintro e w2 hN;cases M:getU l k with
 | none =>
  obtain⟨p,rfl⟩:=hN.2.2 M;have HG:=Q hN.1;have HT:Hid (rdF o l k=none):=(Z HF).trans (by simp[M]);clear hN M;go_wp2_with fail;exact⟨rfl,fdEnd_fail (Z HG) (Z HT) _⟩
 | some x =>
  obtain⟨u,n⟩:=x;obtain⟨rfl,dH⟩:=hN.2.1 u n M;have HG:=Q hN.1;have cS:=Q dH;have HN:=Q (gj 10 0 0 l k u n M).1;have HT:Hid (rdF o l k=some (H (unz u),n)):=(Z HF).trans (by simp[M]);clear hN dH M
  have aW:Bx w2 h2 vs:=zQ (Z HX) ((Z HG).block h2 (by
   obtain⟨y,hy⟩:=Option.isSome_iff_exists.1 ((Z HX).t 0 (by omega)).1;exact yK W _ hy) (by simp;omega))
  have c0:=Y aW o (yH kR);have f0:=zc aW o kR;clear aW;generalize unz u=z at *;go_wp2_with fail;go_end0;exact fdEnd_done (Z HS) (Z HX) (Z HG) hE (Z HT) (Z HN) (Z cS) kR
theorem readPrice_any (wb:World)(R h2:Nat)(v:Value)(l:List Int)(k:Nat)(vs:List Value)(W:World)(hs:RSr wb R v l k W)(hx:Bx W h2 vs)(hE:R<h2)(hv:vs.length=14) :
  Calls Tryz.prog 186 #[.pointer (some ⟨R,0,none⟩),.pointer (some ⟨h2,0,none⟩)] W fun e w'=>FdEnd wb R h2 v l 7 vs W (rdF 7 l k) e w':=by
 have kR:7<vs.length:=by omega
 have HS:=Q hs;have HX:=Q hx;have HV:=Q hv;have hsf:=sfl;clear hs hx hv;go_enter Tryz.func186,Tryz.ntmps186;go_wp2_with fail;refine(float_rs (Z HS)).mono ?_;rintro e w2 hN;cases M:ey l k with
 | none =>
  obtain⟨p,rfl⟩:=hN.2.2 M;have HG:=Q hN.1;have HT:Hid (rdF 7 l k=none):=by show rdF 7 l k=none;simp[rdF,M]
  clear hN M;go_wp2_with fail;exact⟨rfl,fdEnd_fail (Z HG) (Z HT) _⟩
 | some x =>
  obtain⟨u,n⟩:=x;obtain⟨rfl,dH⟩:=hN.2.1 u n M;have HG:=Q hN.1;have cS:=Q dH;have HN:=Q (floatA_le M).1;have HT:Hid (rdF 7 l k=some (yj u,n)):=by show rdF 7 l k = _;simp[rdF,M]
  clear hN dH M
  have aW:Bx w2 h2 vs:=zQ (Z HX) ((Z HG).block h2 (by
   obtain⟨y,hy⟩:=Option.isSome_iff_exists.1 ((Z HX).t 0 (by omega)).1;exact yK W _ hy) (by simp;omega))
  have c0:=Y aW 7 (yH kR);have f0:=zc aW 7 kR;clear aW;go_wp2_with fail;go_end0;exact fdEnd_done (Z HS) (Z HX) (Z HG) hE (Z HT) (Z HN) (Z cS) kR
theorem readTag_any (wb:World)(R h2:Nat)(v:Value)(l:List Int)(k:Nat)(vs:List Value)(W:World)(hs:RSr wb R v l k W)(hx:Bx W h2 vs)(hE:R<h2)(hv:vs.length=14) :
  Calls Tryz.prog 188 #[.pointer (some ⟨R,0,none⟩),.pointer (some ⟨h2,0,none⟩)] W fun e w'=>FdEnd wb R h2 v l 8 vs W (rdF 8 l k) e w':=by
 have kR:8<vs.length:=by omega
 have HS:=Q hs;have HX:=Q hx;have HV:=Q hv;clear hs hx hv;go_enter Tryz.func188,Tryz.ntmps188;go_wp2_with fail;refine(text_rs (Z HS)).mono ?_;rintro e w2 hN;cases M:ed l k with
 | none =>
  obtain⟨p,rfl⟩:=hN.2.2 M;have HG:=Q hN.1;have HT:Hid (rdF 8 l k=none):=by show rdF 8 l k=none;simp[rdF,M]
  clear hN M;go_wp2_with fail;exact⟨rfl,fdEnd_fail (Z HG) (Z HT) _⟩
 | some x =>
  obtain⟨u,n⟩:=x;obtain⟨rfl,dH⟩:=hN.2.1 u n M;have HG:=Q hN.1;have cS:=Q dH;have HN:=Q (textA_le M).1;have HT:Hid (rdF 8 l k=some (yk u,n)):=by show rdF 8 l k = _;simp[rdF,M]
  clear hN dH M
  have aW:Bx w2 h2 vs:=zQ (Z HX) ((Z HG).block h2 (by
   obtain⟨y,hy⟩:=Option.isSome_iff_exists.1 ((Z HX).t 0 (by omega)).1;exact yK W _ hy) (by simp;omega))
  have c0:=Y aW 8 (yH kR);have f0:=zc aW 8 kR;clear aW;go_wp2_with fail;go_end0;exact fdEnd_done (Z HS) (Z HX) (Z HG) hE (Z HT) (Z HN) (Z cS) kR
theorem readField_any (wb w0:World)(yl R h2 o:Nat)(c:Fc)(v:Value)(l:List Int)(k:Nat)(vs:List Value)(W:World)(hs:RSr wb R v l k W)(hx:Bx W h2 vs)(hE:R<h2)(hv:vs.length=14)(K:o=7\/o=8\/plcO o=true)(hf:FF W yl o c)(hF:R<yl) :
  Calls Tryz.prog c.n2 (#[.pointer (some ⟨R,0,none⟩),.pointer (some ⟨h2,0,none⟩)]++c.l) W fun e w'=>FdEnd wb R h2 v l o vs W (rdF o l k) e w':=by
 unfold FF at hf;rcases K with rfl|rfl|K
 ·rw[if_pos rfl] at hf;subst hf;exact readPrice_any wb R h2 v l k vs W hs hx hE hv
 ·rw[if_neg (by decide),if_pos rfl] at hf;subst hf;exact readTag_any wb R h2 v l k vs W hs hx hE hv
 ·rw[if_neg (by intro e;subst e;simp[plcO] at K),if_neg (by intro e;subst e;simp[plcO] at K)] at hf;obtain⟨b,rfl,D,E,h3⟩:=hf;exact readNum_any wb R h2 b o v l k vs W hs hx hE K hv (by omega) h3
theorem field_enter (yl o:Nat)(c:Fc)(W:World)(hf:FF W yl o c)(args:Array Value)(V:World):(callFunc c.n2 args).run Tryz.prog V = .ok (.enter c.n2 args) V/\(callFunc c.n1 args).run Tryz.prog V = .ok (.enter c.n1 args) V:=by
 unfold FF at hf;split at hf
 ·subst hf;exact⟨by kernel_rfl,by kernel_rfl⟩
 ·split at hf
  ·subst hf;exact⟨by kernel_rfl,by kernel_rfl⟩
  ·obtain⟨b,rfl,_⟩:=hf;exact⟨by kernel_rfl,by kernel_rfl⟩
def bl (s:ByteArray):List Int:=s.data.toList.map fun b=>(b.toNat:Int)
def cutB (s:ByteArray):ByteArray:=if 12<s.size then s.extract 0 13 else s
theorem cutB_size (s:ByteArray):(cutB s).size<=13:=by
 unfold cutB;split
 ·simp;omega
 ·omega
end Go.Proofs.YtbghmldggahjiaaGreatDoor
namespace Go.Proofs.YtbghmldggahjiaaGreatDoor
open Go
def zz (n:Int):Nat:=if n<0 then(-2*n-1).toNat else(2*n).toNat
def putU (u:Nat):List Int:=if u<128 then[(u:Int)] else((u:Int) % 128+128)::putU (u / 128)
termination_by u
decreasing_by omega
theorem lx {u:Nat}(h:u<128):putU u = [(u:Int)]:=by rw[putU,if_pos h]
theorem putU_great {u:Nat}(h:¬ u<128):putU u=((u:Int) % 128+128)::putU (u / 128):=by rw[putU,if_neg h]
theorem putU_pos (u:Nat):1<=(putU u).length:=by
 rw[putU];split <;> simp
theorem putU_len:∀(k u:Nat),u<128 ^ (k+1)->(putU u).length<=k+1
 | 0,u,h=>by rw[lx (by simpa using h)];simp
 | k+1,u,h=>by
  by_cases hu:u<128
  ·rw[lx hu];simp
  ·rw[putU_great hu];have:=putU_len k (u / 128) (by rw[Nat.div_lt_iff_lt_mul (by omega)];rw[Nat.pow_succ] at h;exact h);simp only[List.length_cons];omega
theorem ft (u:Nat)(h:u<18446744073709551616):(putU u).length<=10:=
 putU_len 9 u (yJ h (by decide))
def Lt64 (x:Nat):Prop:=x<18446744073709551616
theorem putU_at {u0 x:Nat}{done:List Int}(hu:(putU u0).length<=10)(h:done++putU x=putU u0):done.length<=9:=by
 have:=congrArg List.length h;have D:=putU_pos x;rw[yP] at this;omega
theorem putU_step {u0 x:Nat}{done:List Int}(hx:¬ x<128)(h:done++putU x=putU u0):(done ++ [(x:Int) % 128+128])++putU (x / 128)=putU u0:=by
 rw[<- h,putU_great hx,List.append_assoc];rfl
theorem putU_end {u0 x:Nat}{done:List Int}(hx:x<128)(h:done++putU x=putU u0):done ++ [(x:Int)]=putU u0:=by
 rw[<- h,lx hx]
theorem zz_lt (n:Int)(h0:-9223372036854775808<=n)(D:n<=9223372036854775807):zz n<18446744073709551616:=by
 unfold zz;split <;> omega
theorem xor_ones (x:Nat)(h:x<18446744073709551616):x ^^^ 18446744073709551615=18446744073709551615-x:=by
 have e:=congrArg BitVec.toNat (BitVec.xor_allOnes (x:=BitVec.ofNat 64 x));rw[BitVec.toNat_xor,BitVec.toNat_not,BitVec.toNat_allOnes,BitVec.toNat_ofNat] at e;have hm:x % 2 ^ 64=x:=Nat.mod_eq_of_lt h;rw[hm] at e;exact e
theorem fold_neg (n:Int)(h0:-9223372036854775808<=n)(D:n<0) :
  bits .xor .u64 (IntKind.u64.wrap (IntKind.u64.wrap n*2)) (IntKind.u64.wrap (n / 9223372036854775808))=(zz n:Int):=by
 simp only[IntKind.wrap_u64];have e1:n % 18446744073709551616*2 % 18446744073709551616=2*n+18446744073709551616:=by omega
 have e2:n / 9223372036854775808 % 18446744073709551616=18446744073709551615:=by omega
 rw[e1,e2,u64_xor _ _ (by omega) (by omega) (by omega) (by omega)];have e3:(18446744073709551615:Int).toNat=18446744073709551615:=rfl;rw[e3,xor_ones _ (by omega)];unfold zz;rw[if_pos D];omega
theorem fold_pos (n:Int)(h0:0<=n)(D:n<=9223372036854775807) :
  bits .xor .u64 (IntKind.u64.wrap (IntKind.u64.wrap n*2)) (IntKind.u64.wrap (n / 9223372036854775808))=(zz n:Int):=by
 simp only[IntKind.wrap_u64];have e1:n % 18446744073709551616*2 % 18446744073709551616=2*n:=by omega
 have e2:n / 9223372036854775808 % 18446744073709551616=0:=by omega
 rw[e1,e2,u64_xor _ _ (by omega) (by omega) (by omega) (by omega)];have e3:(0:Int).toNat=0:=rfl;rw[e3,Nat.xor_zero];unfold zz;rw[if_neg (by omega)]
theorem fold_eq (n:Int)(h0:-9223372036854775808<=n)(D:n<=9223372036854775807) :
  bits .xor .u64 (IntKind.u64.wrap (IntKind.u64.wrap n*2)) (IntKind.u64.wrap (n / 9223372036854775808))=(zz n:Int):=by
 by_cases h:n<0
 ·exact fold_neg n h0 h
 ·exact fold_pos n (by omega) D
theorem not_eq (n:Int)(h0:-9223372036854775808<=n)(D:n<0) :
  bits .xor .u64 IntKind.u64.max (IntKind.u64.wrap (IntKind.u64.wrap n*2))=(zz n:Int):=by
 have em:IntKind.u64.max=18446744073709551615:=by decide
 simp only[IntKind.wrap_u64,em];have e1:n % 18446744073709551616*2 % 18446744073709551616=2*n+18446744073709551616:=by omega
 rw[e1,u64_xor _ _ (by omega) (by omega) (by omega) (by omega)];have e3:(18446744073709551615:Int).toNat=18446744073709551615:=rfl;rw[e3,Nat.xor_comm,xor_ones _ (by omega)];unfold zz;rw[if_pos D];omega
theorem twice_eq (n:Int)(h0:0<=n)(D:n<=9223372036854775807):IntKind.u64.wrap (IntKind.u64.wrap n*2)=(zz n:Int):=by
 simp only[IntKind.wrap_u64];unfold zz;rw[if_neg (by omega)];omega
theorem and127 (x:Nat)(h:x<18446744073709551616):bits .and .u64 (x:Int) 127=(x:Int) % 128:=by
 have:=u64_and_nat x 127 h (by omega);rw[show((127:Nat):Int)=127 from rfl] at this;rw[this,show x &&& 127=x % 128 from Nat.and_two_pow_sub_one_eq_mod x 7];omega
theorem or128 (x:Nat):bits .or .u8 ((x:Int) % 256) 128=(x:Int) % 128+128:=by
 rw[u8_or _ _ (by omega) (by omega) (by omega) (by omega)];have e:((x:Int) % 256).toNat=x % 256:=by omega
 have e2:(128:Int).toNat=128:=rfl;rw[e,e2];have A:∀y:Nat,y<256->y ||| 128=y % 128+128:=by decide +kernel
 rw[A _ (Nat.mod_lt _ (by omega))];omega
end Go.Proofs.YtbghmldggahjiaaGreatDoor
namespace Go.Proofs.YtbghmldggahjiaaGreatDoor
open Go.RowKit
theorem fold_any (n:Int)(w:World)(h0:-9223372036854775808<=n)(D:n<=9223372036854775807) :
  Calls Tryz.prog 94 #[H n] w fun e w'=>e = .returned (.int .u64 (zz n))/\w'=w:=by
 have HX:=Q (fold_eq n h0 D);go_enter Tryz.func94,Tryz.ntmps94;go_wp2;go_ret;exact⟨zt (Z HX),rfl⟩
theorem Tryz.arrayLen160:Tryz.prog.arrayLen 160 = 10:=by kernel_rfl
theorem slice_head10 (B k:Nat)(h:k<=9)(W:World) :
  (Instr.sliceAt 160 (xj B 0) none (some (H ((k:Int)+1))) none).run Tryz.prog W = .ok (.slice (some (U B 0)) (k+1) 10) W:=by
 rw[run_sliceAt_array_h W 160 _ (by kernel_rfl) _ _ (by omega) (by rw[Tryz.arrayLen160];omega),Tryz.arrayLen160];have e:((k:Int)+1).toNat=k+1:=by omega
 have hs:(sizeOf (Tryz.prog.elem 160)).run Tryz.prog W = .ok 1 W:=by kernel_rfl
 rw[hs,e];simp[slicedAt,Result.andThen,Addr.add]
theorem gC (n:Int)(w:World)(h0:-9223372036854775808<=n)(D:n<=9223372036854775807) :
  Calls Tryz.prog 59 #[H n] w fun e w'=>∃v,e = .returned v/\OwnT w.heap.size w' v (putU (zz n))/\yn w w':=by
 have HL:=Q (ft _ (zz_lt n h0 D));have H6:=Q (zz_lt n h0 D);have HF:=Q (fun w=>fold_any n w h0 D);clear h0 D;generalize hz:zz n=u0 at *;have HZ:=Q hz;clear hz;go_enter Tryz.func59,Tryz.ntmps59;go_wp2_with (go_at_call 94;refine(Z HF _).mono ?_;rintro e w' ⟨rfl,rfl⟩);go_loopw [4,5] (fun u c wr=>∃(x:Nat) (done:List Int),u = .int .u64 x/\Lt64 x/\c=H done.length/\done++putU x=putU u0/\Arr 10 w.heap.size w wr done) (fun u _ _=>(intOf u).toNat)
 case atStart=>exact⟨u0,[],rfl,Z H6,rfl,rfl,arr_start _ _ _ rfl⟩
 case round =>
  obtain⟨x,done,rfl,hx,rfl,oQ,jW⟩:=hrel;have HD:=Q oQ;have cx:=putU_at (Z HL) oQ;have hdl':(done.length:Int)<10:=by omega
  clear oQ;obtain⟨v0,hv0⟩:=jW.some (j:=done.length) (by omega);have hf0:=jW.free done.length
  by_cases xH:x<128
  ·have HE:=Q (putU_end xH (Z HD));have HA:=Q (arr_step (x:Int) jW (by omega));have hsl:=slice_head10 w.heap.size done.length (by omega);clear jW;go_wp2_with fail;go_ret;have hE:=Z HE;rw[hE] at HA;have xD:done.length+1=(putU u0).length:=by rw[<- hE];simp
   refine⟨_,rfl,?_,(Z HA).below⟩;rw[xD];exact arr_own (Z HA) rfl (by omega)
  ·have uq:(128:Int)<=x:=by omega
   have hand:=and127 x hx;have HA:=Q (arr_step ((x:Int) % 128+128) jW (by omega));clear jW;go_wp2_with fail;go_roundw
   case rel=>exact⟨x / 128,done ++ [(x:Int) % 128+128],by go_num,by unfold Lt64 at *;omega,by simp,putU_step xH (Z HD),Z HA⟩
   case measure=>simp[intOf];omega

theorem Tryz.arrayLen286:Tryz.prog.arrayLen 286 = 8:=by kernel_rfl

end Go.Proofs.YtbghmldggahjiaaGreatDoor
