/-.-/
import Derived.Test.YtbghmldggahjiaaGreatDoorUj46
import Derived.Lib.SlBytesConst
set_option linter.unusedVariables false
set_option maxHeartbeats 6400000
set_option maxRecDepth 100000
namespace Go.Proofs.YtbghmldggahjiaaGreatDoor
open Go.RowKit
theorem strB_data:∀(ns:List Int) (r:ByteArray),(ns.foldl (fun r n=>r.push (UInt8.ofNat n.toNat)) r).data.toList=r.data.toList++ns.map fun n=>UInt8.ofNat n.toNat
 | [],r=>by simp
 | a::ns,r=>by
  rw[List.foldl_cons,strB_data ns,ByteArray.data_push];simp
theorem strB_inj {a b:List Int}(ha:Bts a)(A:Bts b)(h:strB a=strB b):a=b:=by
 have D:=strB_data a ByteArray.empty;have E:=strB_data b ByteArray.empty;unfold strB at h;rw[h,E] at D;have h3:(b.map fun n=>UInt8.ofNat n.toNat)=a.map fun n=>UInt8.ofNat n.toNat:=List.append_cancel_left D;clear h D E
 induction a generalizing b with
 | nil=>cases b with
  | nil=>rfl
  | cons x b=>cases h3
 | cons x a ih =>
  cases b with
  | nil=>cases h3
  | cons y b =>
   simp only[List.map_cons,List.cons.injEq] at h3;have hx:=ha x (by simp);have hy:=A y (by simp);have e:=congrArg UInt8.toNat h3.1;rw[UInt8.toNat_ofNat_of_lt' (by show y.toNat<256;omega),UInt8.toNat_ofNat_of_lt' (by show x.toNat<256;omega)] at e;rw[ih (fun z hz=>ha z (by simp[hz])) (fun z hz=>A z (by simp[hz])) h3.2];congr 1;omega
theorem lQ (va vb:Value)(la lb:List Int)(w:World)(ha:Rd w va la)(A:Rd w vb lb)(ba:Bts la)(bb:Bts lb) :
  Calls Tryz.prog 34 #[va,vb] w fun e w'=>e=ym (.bool (decide (la=lb)))/\w'=w:=by
 have c1:=gH va la w ha;have c2:=gH vb lb w A
 have HD:Hid (((strB la).toList==(strB lb).toList)=decide (la=lb)):=by
  show _ = _
  by_cases h:la=lb
  ·subst h;simp
  ·have:(strB la).toList≠(strB lb).toList:=fun e=>h (strB_inj ba bb (by
    rw[ByteArray.toList_eq,ByteArray.toList_eq] at e;exact ByteArray.ext (Array.toList_inj.1 e)))
   simp[h,this]
 go_enter Tryz.func34,Tryz.ntmps34;go_wp2;go_ret;exact⟨by rw[<- Z HD];rfl,rfl⟩
theorem hasPrefix_any (v vp:Value)(l p:List Int)(w:World)(hr:Rd w v l)(xC:∀a n c,v = .slice a n c->n<=c)(hp:Rd w vp p)(A:Bts l)(hbp:Bts p)(h0:0<p.length)(hl:l.length<=1048576) :
  Calls Tryz.prog 25 #[v,vp] w fun e w'=>e=ym (.bool (decide (l.take p.length=p)))/\w'=w:=by
 obtain⟨a,cap,rfl,-,hc⟩:=id hr;obtain⟨ap,cp,rfl,uJ,-⟩:=id hp;have HE:=Q (fun va la (kz:Rd w va la) (jB:Bts la)=>lQ va (.slice ap p.length cp) la p w kz hp jB hbp);have jC:=xC _ _ _ rfl
 by_cases h:p.length<=l.length
 ·obtain⟨b,off,rfl,pH⟩:=hc (by intro e;rw[e] at h;simp only[List.length_nil] at h;omega);have D:(p.length:Int)<=l.length:=by omega
  have E:(p.length:Int)<=cap:=by omega
  have h3:((l.length:Int) ≥ p.length):=by omega
  have HR:Hid (Rd w (.slice (some (U b off)) p.length cap) (l.take p.length)):=by
   refine⟨_,cap,by rw[List.length_take,Nat.min_eq_left h],by rw[List.length_take];omega,fun _=>⟨b,off,rfl,fun i hi=>?_⟩⟩;rw[List.length_take,Nat.min_eq_left h] at hi;rw[pH i (by omega)];have:(l.take p.length).getD i 0=l.getD i 0:=by simp[hi]
   rw[this]
  have HBL:Hid (Bts (l.take p.length)):=fun x hx=>A x (List.mem_of_mem_take hx);clear pH hc hr hp xC A;go_enter Tryz.func25,Tryz.ntmps25;go_wp2_with fail;refine(Z HE _ _ (Z HR) (Z HBL)).mono ?_;rintro e w1 ⟨rfl,rfl⟩;go_wp2_with fail;go_ret;exact⟨rfl,rfl⟩
 ·have h3:¬ ((p.length:Int)<=l.length):=by omega
  have e:decide (l.take p.length=p)=false:=decide_eq_false fun e=>by
   have:=congrArg List.length e;rw[List.length_take] at this;omega
  rw[e];clear hc hr hp xC A;go_enter Tryz.func25,Tryz.ntmps25;go_wp2;go_ret;exact⟨rfl,rfl⟩
abbrev headO:Obj:=.cells #[.int .u8 84,.int .u8 74,.int .u8 49] 5 (3,4)
theorem rd_head (w:World):Rd (w.alloc headO) (.slice (some (yq w 0)) 3 3) [84,74,49]:=
 ⟨_,3,rfl,by simp,fun _=>⟨w.heap.size,0,rfl,fun i hi=>by
  match i,hi with
  | 0,_=>unfold World.cell?;rw[heap_alloc_new];rfl
  | 1,_=>unfold World.cell?;rw[heap_alloc_new];rfl
  | 2,_=>unfold World.cell?;rw[heap_alloc_new];rfl
  | i+3,hi=>exact absurd hi (by simp)⟩⟩
theorem conv_head (w:World):(convert 22 22 (.slice (some (yq w 0)) 3 3)).run Tryz.prog (w.alloc (.cells #[.int .u8 84,.int .u8 74,.int .u8 49] 5)) = .ok (.slice (some (yq w 0)) 3 3) (w.alloc headO):=
 Lib.run_convert_bytes_const w _ _ _ 3 3 Tryz.underlying22 Tryz.underlying5
theorem head_bts:Bts [84,74,49]:=fun x hx=>by simp at hx;omega
theorem headSum_any (w:World):Calls Tryz.prog 26 #[] w fun e w'=>e=ym (H (sumL [84,74,49] 1))/\yn w w':=by
 have HB:Hid (yn w (w.alloc headO)):=lT _ _;have HS:=Q (implSum_any _ _ 1 _ (rd_head w) head_bts);have e:sumOf [84,74,49] 1=sumL [84,74,49] 1:=by unfold sumOf;rw[if_neg (by simp)]
 rw[e] at HS;generalize sumL [84,74,49] 1=s at HS |-;clear e;have hcv:=conv_head w;generalize w.alloc headO=W1 at HB HS hcv;go_enter Tryz.func26,Tryz.ntmps26;go_wp2_with fail;refine(Z HS).mono ?_;rintro e w1 ⟨rfl,rfl⟩;go_wp2_with fail;go_ret;exact⟨rfl,Z HB⟩
theorem rd_piece {w:World}{v:Value}{l:List Int}(h:Rd w v l)(hl:l.length<=65536){b off cap n c:Nat}(hv:v = .slice (some (U b off)) l.length cap)(hn:n+c<=l.length)(cp:Nat)(h0:0<c) :
  Rd w (.slice (some (U b (off+n))) c cp) ((l.drop n).take c):=by
 obtain⟨a,qP,e,_,hc⟩:=h;obtain⟨b',oW,e2,hc⟩:=hc (by intro h;subst h;simp at hn;omega);rw[hv] at e;simp only[Value.slice.injEq,true_and] at e;obtain⟨e1,-⟩:=e;rw[e2] at e1;simp only[Option.some.injEq,Addr.mk.injEq,and_true] at e1;obtain⟨rfl,rfl⟩:=e1;exact piece_rd hc hn hl
theorem rd_none (w:World)(a:Option Addr)(cp:Nat):Rd w (.slice a 0 cp) []:=⟨a,cp,rfl,by simp,fun h=>absurd rfl h⟩
theorem take_nil0 (l:List Int)(n:Nat):(l.drop n).take 0 = []:=by simp
theorem take_rs {wb W:World}{R:Nat}{v:Value}{l:List Int}{k:Nat}(h:RSr wb R v l k W)(c:Nat)(hc:k+c<=l.length) :
  Calls Tryz.prog 38 #[xj R 0,H c] W fun e w'=>∃a cp,e=ym (.slice a c cp)/\Rd wb (.slice a c cp) ((l.drop k).take c)/\RSr wb R v l (k+c) w'/\W.grownBy w' (some R):=by
 have om:=h.ll;have M:∀(m:Nat) (q:Nat),W.grownBy ((W.setCell (U R 1) (H m)).drewN q) (some R):=fun m q=>zC (eF W (U R 1) _) (dZ _ q _);obtain⟨a,cap,hv⟩:=eb h.rd;have xC:=h.cap _ _ _ hv;have hr:=h.r
 by_cases h0:c=0
 ·subst h0;rw[hv] at hr;refine(take_zero R k a l.length cap W hr (by omega) (by omega) xC).mono ?_;rintro e w' ⟨⟨a',c',rfl⟩,q,rfl⟩;exact⟨a',c',rfl,by rw[take_nil0];exact rd_none _ _ _,h.go (M k q) ((h.r.step _).drewN q) (by omega),M k q⟩
 ·obtain⟨b,off,rfl⟩:∃b off,a=some (U b off):=by
   obtain⟨a',qP,e,_,hx⟩:=h.rd;obtain⟨b,off,e2,_⟩:=hx (by intro e;rw[e] at hc;simp at hc;omega);rw[hv] at e;simp only[Value.slice.injEq,true_and] at e;exact⟨b,off,e.1.trans e2⟩
  rw[hv] at hr;refine(take_ok R c k b off l.length cap W hr hc (by omega) xC (by omega)).mono ?_;rintro e w' ⟨rfl,q,rfl⟩;exact⟨_,_,rfl,rd_piece h.rd om hv hc _ (by omega),h.go (M _ q) ((h.r.step _).drewN q) (by omega),M _ q⟩
theorem take_rse {wb W:World}{R:Nat}{v:Value}{l:List Int}{k:Nat}(h:RSr wb R v l k W)(c:Nat)(hc:l.length<k+c)(D:c<=1073741824) :
  Calls Tryz.prog 38 #[xj R 0,H c] W fun e w'=>(∃p,e = .panicked (eE 3 p))/\W.grownBy w' (some R):=by
 have om:=h.ll;have ar:=h.kk;obtain⟨a,cap,hv⟩:=eb h.rd;have hr:=h.r;rw[hv] at hr;refine(iH R c k a l.length cap W hr (by omega) (by omega) (by omega) (by omega) (by omega)).mono ?_;rintro e w' ⟨rfl,q,rfl⟩;exact⟨⟨_,rfl⟩,dZ _ q _⟩
def FrEnd (wb:World)(R:Nat)(v:Value)(l:List Int)(W:World)(r:Option (Int × Nat × Nat × Int))(e:Ending)(w':World):Prop:=
 W.grownBy w' (some R)/\(∀m n t s,r=some (m,n,t,s)->∃pv,e=ym (.agg #[.int .u8 m,pv,H n,H s])/\Rd wb pv ((l.drop n).take (t-n))/\dR pv/\Rdr R w' v ((t+2:Nat):Int))/\(r=none->∃p,e = .panicked (eE 3 p))
theorem gE {wb:World}{R:Nat}{v:Value}{l:List Int}{W w':World}{r:Option (Int × Nat × Nat × Int)}(M:W.grownBy w' (some R))(hr:r=none)(p:Int):FrEnd wb R v l W r (.panicked (eE 3 p)) w':=
 ⟨M,(fun _ _ _ _ h=>by rw[hr] at h;cases h),fun _=>⟨p,rfl⟩⟩
theorem frEnd_done {wb:World}{R:Nat}{v:Value}{l:List Int}{W w':World}{r:Option (Int × Nat × Nat × Int)}{m:Int}{n t:Nat}{s:Int}{pv:Value}(M:W.grownBy w' (some R))(hr:r=some (m,n,t,s))(hp:Rd wb pv ((l.drop n).take (t-n)))(hc:dR pv)(h:Rdr R w' v ((t+2:Nat):Int)):FrEnd wb R v l W r (ym (.agg #[.int .u8 m,pv,H n,H s])) w':=
 ⟨M,(fun _ _ _ _ h'=>by rw[hr] at h';cases h';exact⟨pv,rfl,hp,hc,h⟩),(fun h'=>by rw[hr] at h';cases h')⟩
theorem or_two (a b:Int)(ha:0<=a/\a<=255)(A:0<=b/\b<=255):bits .or .i64 (a*256) b=a*256+b:=by
 obtain⟨x,rfl⟩:=Int.eq_ofNat_of_zero_le ha.1;obtain⟨y,rfl⟩:=Int.eq_ofNat_of_zero_le A.1;have e2:(x:Int)*256=((x*256:Nat):Int):=by omega
 have h:=nat_join 8 (x*256) y (by omega) (by omega);rw[e2];show IntKind.i64.wrap ((BitVec.ofInt 64 ((x*256:Nat):Int) ||| BitVec.ofInt 64 (y:Int)).toNat:Int) = _;rw[BitVec.toNat_or,ofInt_u64 _ (by omega),ofInt_u64 _ (by omega),h,IntKind.wrap_i64];omega
theorem rd_first {w:World}{a:Option Addr}{cp c:Nat}{l:List Int}{k:Nat}(h:Rd w (.slice a c cp) ((l.drop k).take c))(hc:k+c<=l.length)(h0:0<c):∃b off,a=some (U b off)/\∀i,i<c->w.cell? (U b (off+i))=some (.int .u8 (l.getD (k+i) 0)):=by
 obtain⟨a',qP,e,_,hx⟩:=h;have xD:((l.drop k).take c).length=c:=by rw[List.length_take,List.length_drop];omega
 obtain⟨b,off,e2,hx⟩:=hx (by intro e;rw[e] at xD;simp at xD;omega);simp only[Value.slice.injEq] at e;refine⟨b,off,e.1.trans e2,fun i hi=>?_⟩;rw[hx i (by omega)];have:((l.drop k).take c).getD i 0=l.getD (k+i) 0:=by simp[hi,List.getElem?_drop]
 rw[this]
theorem set4 (W:World)(b:Nat)(v0 v1 v2 v3:Value):(((W.setCell (U b 0) v0).setCell (U b 1) v1).setCell (U b 2) v2).setCell (U b 3) v3=W.setCells b 0 [v0,v1,v2,v3]:=by
 simp[World.setCells]
theorem frame_rs {wb W:World}{R:Nat}{v:Value}{l:List Int}{k:Nat}(s:Int)(h:RSr wb R v l k W)(h0:0<=s)(D:s<65521) :
  Calls Tryz.prog 29 #[xj R 0,H s] W fun e w'=>FrEnd wb R v l W (frA l k s) e w':=by
 have hR:=h.lt;have om:=h.ll;have ar:=h.kk;have kZ:=Q h.bb;obtain⟨xA,HX⟩:=lY W [.int .u8 0,.slice none 0 0,H 0,H 0] 61;have HS:=Q (h.below xA hR);have HG:=Q (gk xA R);have HZ:Hid (W.heap.size<(W.alloc (J #[.int .u8 0,.slice none 0 0,H 0,H 0] 61)).heap.size):=by show _ < _;simp
 clear h xA;have HE:=Q (fun h=>frA_end (l:=l) (k:=k) (s:=s) h);have HM:=Q (fun h=>frA_mark (l:=l) (k:=k) (s:=s) h);have HN:=Q (fun h=>frA_num (l:=l) (k:=k) (s:=s) h);have HB:=Q (fun u n h A=>frA_bad (l:=l) (k:=k) (s:=s) (u:=u) (n:=n) h A);have HU:=Q (fun u n c h hu A=>frA_sum (l:=l) (k:=k) (s:=s) (u:=u) (n:=n) (c:=c) h hu A);have HY:=Q (fun u n c X D h hu hc hl A=>frA_yes (l:=l) (k:=k) (s:=s) (u:=u) (n:=n) (c:=c) X D h hu hc hl A);generalize frA l k s=FR at HE HM HN HB HU HY |-;go_enter Tryz.func29,Tryz.ntmps29;have r1:=(Z HS).r.2;go_wp2_with fail;generalize W.alloc (J #[.int .u8 0,.slice none 0 0,H 0,H 0] 61)=W0 at HS HX HG HZ r1 |-
 by_cases X:l.length<=k
 ·have HF:=Q (Z HE X);refine(take_rse (Z HS) 1 (by omega) (by omega)).mono ?_;rintro e w1 ⟨⟨p,rfl⟩,M⟩;go_wp2_with fail;exact⟨rfl,gE (zC (Z HG) M) (Z HF) _⟩
 refine(take_rs (Z HS) 1 (by omega)).mono ?_;rintro e w1 ⟨a1,cp1,rfl,hrd1,xI,hg1⟩;obtain⟨b1,o1,rfl,qV⟩:=rd_first (zN hrd1 xI.bel ya) (by omega) (by omega);have x0:=qV 0 (by omega);simp only[Nat.add_zero] at x0;have hm:=eQ (Z kZ) k;generalize l.getD k 0=m at x0 hm HM HY;have pF:=Q xI;have pm:=Q (zC (Z HG) hg1);have uh:=Q (zQ (Z HX) (hg1.block W.heap.size (Z HZ) (by simp;omega)));have HZ1:Hid (W.heap.size<w1.heap.size):=yJ (Z HZ) hg1.size;clear hrd1 xI hg1 qV HS HX HG HZ r1
 by_cases hmk:m≠71/\m≠69
 ·have HF:=Q (Z HM hmk);have e1:(m != 71)=true:=by simpa using hmk.1
  have e2:(m != 69)=true:=by simpa using hmk.2
  clear hmk;go_wp2_with fail;refine(fw R 3 _ _ _ (Z pF).r).mono ?_;rintro e w2 ⟨rfl,rfl⟩;go_wp2_with fail;exact⟨rfl,gE (Z pm) (Z HF) _⟩
 have HMK:Hid (m=71\/m=69):=by show _ \/ _;omega
 clear hmk HM;have HNM:=Q (number_rs (Z pF));rcases Z HMK with rfl|rfl
 all_goals
  go_wp2_with fail;refine(Z HNM).mono ?_;intro e w2 hN;cases M:getU l (k+1) with
  | none =>
   obtain⟨p,rfl⟩:=hN.2.2 M;have cN:=Q (zC (Z pm) hN.1);have HF:=Q (Z HN M);clear hN M;go_wp2_with fail;exact⟨rfl,gE (Z cN) (Z HF) _⟩
  | some x =>
   obtain⟨u,n⟩:=x;obtain⟨rfl,dH⟩:=hN.2.1 u n M;have uB:=gj 10 0 0 l (k+1) u n M;have uZ:=hN.1;have ua:=Q (zC (Z pm) uZ);have vL:=Q ((Z pF).go uZ dH uB.1);have xF:=Q (zQ (Z uh) (uZ.block W.heap.size (Z HZ1) (by simp;omega)));have jN:Hid (W.heap.size<w2.heap.size):=yJ (Z HZ1) uZ.size;have uk:=Q (fun A=>Z HB u n M A);have HUD:=Q (fun c hu A=>Z HU u n c M hu A);have HYD:=Q (fun c hu hc hl A=>Z HY u n c (by omega) (Z HMK) M hu hc hl A);clear hN dH M uZ HB HU HY HN HNM pF pm uh HZ1 HMK x0;generalize unz u=z at uk HUD HYD |-;obtain⟨cD,hn2⟩:=uB;have HIB:=Q (iJ z 0 8192);go_wp2_with fail;refine(Z HIB _).mono ?_;rintro e w3 ⟨rfl,rfl⟩
   by_cases hz:betB z 0 8192=true
   ·have hz':0<=z/\z<=8192:=by simpa[betB] using hz
    obtain⟨c,rfl⟩:=Int.eq_ofNat_of_zero_le hz'.1;have hc:c<=8192:=by omega
    have r2:=(Z vL).r.2;rw[hz];clear hz hz' HIB;go_wp2_with fail
    by_cases xm:l.length<n+c
    ·have HF:=Q (Z uk (by omega));refine(take_rse (Z vL) c xm (by omega)).mono ?_;rintro e w3 ⟨⟨p,rfl⟩,M⟩;go_wp2_with fail;exact⟨rfl,gE (zC (Z ua) M) (Z HF) _⟩
    refine(take_rs (Z vL) c (by omega)).mono ?_;rintro e w3 ⟨a3,c3,rfl,-,ja,uW⟩;have uD:=Q (zC (Z ua) uW);have uz:=Q (zQ (Z xF) (uW.block W.heap.size (Z jN) (by simp;omega)));have HZ3:Hid (W.heap.size<w3.heap.size):=yJ (Z jN) uW.size;have kc:=Q ja;have r3:=ja.r.2;have r4:=ja.r.1;obtain⟨a,cap,hv⟩:=eb ja.rd;have xC:=ja.cap _ _ _ hv
    obtain⟨b,off,rfl⟩:∃b off,a=some (U b off):=by
     obtain⟨a',qP,e,_,hx⟩:=ja.rd;obtain⟨b,off,e2,_⟩:=hx (by intro e;rw[e] at X;simp at X);rw[hv] at e;simp only[Value.slice.injEq,true_and] at e;exact⟨b,off,e.1.trans e2⟩
    have HP:=Q (rd_piece (n:=k) (c:=n+c-k) ja.rd om hv (by omega) (cap-k) (by omega));have HQ:Hid (0<c->Rd wb (.slice (some (U b (off+n))) c c) ((l.drop n).take c)):=fun h0=>rd_piece ja.rd om hv (by omega) c h0;have HRB:=Q (zN (Z HP) ja.bel ya);have HPB:Hid (Bts ((l.drop k).take (n+c-k))):=fun x hx=>Z kZ x (List.mem_of_mem_drop (List.mem_of_mem_take hx));have HSM:=Q (implSum_any _ _ s w3 (Z HRB) (Z HPB));rw[hv] at r4;have q1:(k:Int)<=n+c:=by omega
    have q2:((n:Int)+c)<=cap:=by omega
    have q3:¬ (cap=k):=by omega
    have q4:((n+c-k:Nat):Int)=n+c-k:=by omega
    have q5:(0:Int)<=n:=by omega
    clear ja uW r2 ua xF jN vL;go_wp2_with fail;refine(Z HSM).mono ?_;rintro e w4 ⟨rfl,rfl⟩
    have jS:Hid (sumOf ((l.drop k).take (n+c-k)) s=sumL ((l.drop k).take (n+c-k)) s):=by
     show _ = _;unfold sumOf;rw[if_neg];rw[List.length_take];omega
    rw[Z jS];have HUE:=Q (fun A=>Z HUD c rfl A);have HYE:=Q (fun hl A=>Z HYD c rfl hc hl A);have HSB:=Q (io ((l.drop k).take (n+c-k)) s h0 D);generalize sumL ((l.drop k).take (n+c-k)) s=s2 at HUE HYE HSB |-;clear HSM jS HUD HYD q3 q4;go_wp2_with fail
    by_cases hcl2:l.length<n+c+2
    ·have HF:=Q (Z uk (by omega));refine(take_rse (Z kc) 2 hcl2 (by omega)).mono ?_;rintro e w5 ⟨⟨p,rfl⟩,M⟩;go_wp2_with fail;exact⟨rfl,gE (zC (Z uD) M) (Z HF) _⟩
    refine(take_rs (Z kc) 2 (by omega)).mono ?_;rintro e w5 ⟨a5,c5,rfl,hrd5,hs5,kN⟩;obtain⟨b5,o5,rfl,hc5⟩:=rd_first (zN hrd5 hs5.bel ya) (by omega) (by omega);have y0:=hc5 0 (by omega);have y1:=hc5 1 (by omega);simp only[Nat.add_zero] at y0;have xA:=eQ (Z kZ) (n+c);have xR:=eQ (Z kZ) (n+c+1);have kI:=Q (Z HYE (by omega));generalize l.getD (n+c) 0=m0 at y0 xA HUE kI;generalize l.getD (n+c+1) 0=m1 at y1 xR HUE kI;have uQ:=Q (zC (Z uD) kN);have uK:=Q (zQ (Z uz) (kN.block W.heap.size (Z HZ3) (by simp;omega)));have HS5:=Q hs5;have r5:=hs5.r.1;rw[hv] at r5;have K:=or_two m0 m1 xA xR;have hw0:IntKind.i64.wrap (m0*256)=m0*256:=by rw[IntKind.wrap_i64];omega
    have ju:IntKind.i64.wrap m0=m0:=by rw[IntKind.wrap_i64];omega
    have aV:IntKind.i64.wrap m1=m1:=by rw[IntKind.wrap_i64];omega
    clear hrd5 hs5 kN hc5 kc uD uz HYE HRB r3 r4;go_wp2_with fail;go_quiet (fail);have vj:=Q (zC (Z uQ) (dZ w5 nq _));have vE:=Q (fN (Z uK) nq);have HS6:Hid (RSr wb R v l (n+c+2) (w5.drewN nq)):=(Z HS5).go (dZ w5 nq _) ((Z HS5).r.drewN nq) (by omega);have r6:=(Z HS6).r.1;rw[hv] at r6;generalize w5.drewN nq=w6 at vj vE HS6 r6 |-;clear uQ uK HS5 r5 y0 y1 hw0 ju aV
    by_cases hq:m0*256+m1=s2
    ·have HF:=Q (Z kI hq);have e1:(m0*256+m1 != s2)=false:=by simpa using hq
     clear hq HUE kI;have z0:=Y (Z vE) 0 rfl;have z1:=Y (Z vE) 1 rfl;have z2:=Y (Z vE) 2 rfl;have z3:=Y (Z vE) 3 rfl;have f0:=zc (Z vE) 0 (by decide);have f1:=zc (Z vE) 1 (by decide);have f2:=zc (Z vE) 2 (by decide);have f3:=zc (Z vE) 3 (by decide);have q6:(n:Int)<=n+c:=by omega
     have q7:((n:Int)+c-n)=c:=by omega
     have HPV:Hid (∃pv,(c=0->pv = .slice (some (U b off)) 0 0)/\(¬ c=0->pv = .slice (some (U b (off+n))) c c)/\Rd wb pv ((l.drop n).take (n+c-n))/\dR pv):=by
      rw[show n+c-n=c by omega]
      by_cases jn:c=0
      ·subst jn;exact⟨_,fun _=>rfl,fun h=>absurd rfl h,by rw[take_nil0];exact rd_none _ _ _,fun a n c e=>by cases e;exact Nat.le_refl _⟩
      ·exact⟨_,fun h=>absurd h jn,fun _=>rfl,Z HQ (by omega),fun a n c e=>by cases e;exact Nat.le_refl _⟩
     obtain⟨pv,hp0,hp1,hp2,hp3⟩:=Z HPV;have HP2:=Q hp2;have HP3:=Q hp3;have xt:=Q (fun m=>zk (us:=[.int .u8 m,pv,H n,H s2]) (Z vE) rfl);have kC:=Q (fun m=>iR [.int .u8 m,pv,H n,H s2] (Z vj) ya);have pR:=Q (fun m=>iP [.int .u8 m,pv,H n,H s2] (Z HS6).r (show R≠W.heap.size by omega));clear HPV vE vj HS6 hp2 hp3
     by_cases jn:c=0
     ·obtain rfl:=hp0 jn;subst jn;clear hp0 hp1;go_wp2_with fail;rw[set4];have d:=Z xt;refine bodyPost_ret (by simp[results,Tryz.results29,go_sem,Y (d _) 0 rfl,Y (d _) 1 rfl,Y (d _) 2 rfl,Y (d _) 3 rfl];try rfl) rfl (frEnd_done (Z kC _) (Z HF) (Z HP2) (Z HP3) (Z pR _))
     ·obtain rfl:=hp1 jn;clear hp0 hp1;go_wp2_with fail;rw[set4];have d:=Z xt;refine bodyPost_ret (by simp[results,Tryz.results29,go_sem,Y (d _) 0 rfl,Y (d _) 1 rfl,Y (d _) 2 rfl,Y (d _) 3 rfl];try rfl) rfl (frEnd_done (Z kC _) (Z HF) (Z HP2) (Z HP3) (Z pR _))
    ·have HF:=Q (Z HUE hq);have e1:(m0*256+m1 != s2)=true:=by simpa using hq
     clear hq HUE kI;go_wp2_with fail;refine(fw R 3 _ _ _ (Z HS6).r).mono ?_;rintro e w7 ⟨rfl,rfl⟩;go_wp2_with fail;exact⟨rfl,gE (Z vj) (Z HF) _⟩
   ·have hz':z<0\/8192<z:=by
     by_cases h:z<0
     ·exact Or.inl h
     ·refine Or.inr ?_
      by_cases E:8192<z
      ·exact E
      ·exact absurd (by simp[betB];omega) hz
    have HF:=Q (Z uk (by omega));rw[show betB z 0 8192=false by simpa using hz];clear hz hz' HIB;go_wp2_with fail;refine(fw R 3 _ _ _ (Z vL).r).mono ?_;rintro e w4 ⟨rfl,rfl⟩;go_wp2_with fail;exact⟨rfl,gE (Z ua) (Z HF) _⟩
def vdV (x:Nat × Int):Value:=.agg #[.bool (decide (x.2=0)),H x.1,H x.2]
def I6T (t:Tot):Prop:=I6 t.gr/\I6 t.ac/\I6 t.rf/\I6 t.tr/\I6 t.vo/\I6 t.no/\I6 t.li/\I6 t.le
theorem i6_wrap (x:Int):I6 (wrap64 x):=by unfold I6 wrap64;omega
theorem i6_cntE {t:Tot}(e:Ev)(h:I6T t):I6T (cntE t e):=by
 obtain⟨D,E,h3,h4,h5,h6,h7,h8⟩:=h;unfold cntE
 repeat' split
 all_goals (refine⟨?_,?_,?_,?_,?_,?_,?_,?_⟩ <;> first|assumption|exact i6_wrap _)
theorem i6_fold:∀(es:List Ev) {t:Tot},I6T t->I6T (es.foldl cntE t)
 | [],t,h=>h
 | e::es,t,h=>i6_fold es (i6_cntE e h)
theorem i6_wg {t:Tot}(es:List Ev)(h:I6T t):I6T (wgT t es):=by
 unfold wgT;obtain⟨D,E,h3,h4,h5,h6,h7,h8⟩:=h;exact i6_fold es ⟨i6_wrap _,E,h3,h4,h5,h6,h7,h8⟩
theorem i6_run:∀(cs:List Cm) {s:RunSt},I6T s.t->I6T (cs.foldl rstep s).t
 | [],s,h=>h
 | c::cs,s,h=>i6_run cs (s:=rstep s c) (i6_wg _ h)
theorem i6_wb:∀(l:List Od) {t:Tot},I6T t->I6T (l.foldl cntO t)
 | [],t,h=>h
 | o::l,t,h=>i6_wb l (by obtain⟨D,E,h3,h4,h5,h6,h7,h8⟩:=h;exact⟨D,E,h3,h4,h5,h6,i6_wrap _,i6_wrap _⟩)
theorem ttJ_ok (cs:List Cm):(ttJ cs).ok:=by
 have h:I6T (wbT (runS cs).t (runS cs).l):=i6_wb _ (i6_run cs (s:=⟨1,[],[],tot0⟩) (by refine⟨?_,?_,?_,?_,?_,?_,?_,?_⟩ <;> (show I6 0;unfold I6;omega)));obtain⟨D,E,h3,h4,h5,h6,h7,h8⟩:=h;intro x hx;simp only[Tt.ns,ttJ,List.mem_cons,List.not_mem_nil,or_false] at hx;rcases hx with rfl|rfl|rfl|rfl|rfl|rfl|rfl|rfl <;> assumption
theorem set3 (W:World)(b:Nat)(v0 v1 v2:Value):((W.setCell (U b 0) v0).setCell (U b 1) v1).setCell (U b 2) v2=W.setCells b 0 [v0,v1,v2]:=by
 simp only[World.setCells]
theorem endV_box (w:World)(m:Int)(pa:Option Addr)(pl pc:Nat)(n s:Int):Bx ((w.alloc (J #[.int .u8 m,.slice pa pl pc,H n,H s] 61)).alloc (J #[.bool false,H 0,H 0] 24)) w.heap.size [.int .u8 m,.slice pa pl pc,H n,H s]/\Bx ((w.alloc (J #[.int .u8 m,.slice pa pl pc,H n,H s] 61)).alloc (J #[.bool false,H 0,H 0] 24)) (w.heap.size+1) [.bool false,H 0,H 0]/\((w.alloc (J #[.int .u8 m,.slice pa pl pc,H n,H s] 61)).alloc (J #[.bool false,H 0,H 0] 24)).heap.size=w.heap.size+2/\yn w ((w.alloc (J #[.int .u8 m,.slice pa pl pc,H n,H s] 61)).alloc (J #[.bool false,H 0,H 0] 24)):=by
 refine⟨zf (zj w [.int .u8 m,.slice pa pl pc,H n,H s] 61) ((Below.refl (w.heap.size+1) _).alloc (by simp) _) (by omega),?_,by simp,((Below.refl _ w).alloc ya _).alloc (by simp) _⟩;have h:=zj (w.alloc (J #[.int .u8 m,.slice pa pl pc,H n,H s] 61)) [.bool false,H 0,H 0] 24;rwa[show(w.alloc (J #[.int .u8 m,.slice pa pl pc,H n,H s] 61)).heap.size=w.heap.size+1 by simp] at h
theorem endVerdict_any {lV B:Nat}{cs:List Cm}{vq vt:Value}(l:List Int)(m:Int)(pa:Option Addr)(pl pc n t:Nat)(s:Int)(w:World)(h:JG lV B w cs vq vt)(hl:cs.length<=200)(hp:Rd w (.slice pa pl pc) ((l.drop n).take (t-n)))(A:Bts l)(om:l.length<=65536)(ht:t+2<=l.length) :
  Calls Tryz.prog 30 #[xj lV 0,.agg #[.int .u8 m,.slice pa pl pc,H n,H s],H ((t+2:Nat):Int),H l.length] w fun e w'=>e=ym (vdV (endJ l n t cs))/\yn w w':=by
 have hJl:=h.lt;have jm:=h.box;unfold jgV at jm;have qZ:=(gR cs hl).1.good.len;obtain⟨qa,qc,rfl⟩:=fI h.row;obtain⟨hX,hY,hZ,hB⟩:=endV_box w m pa pl pc n s;have HX:=Q hX;have HY:=Q hY;have HB:=Q hB;have HPB:Hid (Bts ((l.drop n).take (t-n))):=fun x hx=>A x (List.mem_of_mem_drop (List.mem_of_mem_take hx));have HRQ:Hid (∀V,yn w V->RdR Od.vs 6 V (.slice qa (runS cs).l.length qc) (runS cs).l):=fun V hV=>zq (zP h.row (by omega)) hV ya;have HRP:Hid (∀V,yn w V->Rd V (.slice pa pl pc) ((l.drop n).take (t-n))):=fun V hV=>zN hp hV ya;have HEJ:=Q (endJ.eq_1 l n t cs);have jc:=Q (ttJ_ok cs);have HPY:=Q (pay_bts (ttJ cs).ns);have HTP:Hid (∀V,Calls Tryz.prog 42 #[.agg #[H (wbT (runS cs).t (runS cs).l).gr,H (wbT (runS cs).t (runS cs).l).ac,H (wbT (runS cs).t (runS cs).l).rf,H (wbT (runS cs).t (runS cs).l).tr,H (wbT (runS cs).t (runS cs).l).vo,H (wbT (runS cs).t (runS cs).l).no,H (wbT (runS cs).t (runS cs).l).li,H (wbT (runS cs).t (runS cs).l).le]] V fun e w'=>∃v,e=ym v/\BRow w' V.heap.size v (pay (ttJ cs).ns)/\yn V w'):=fun V=>totalsPayload_any (ttJ cs) (ttJ_ok cs) V;have HWB:=Q (fun V hV=>withBook_any (runS cs).t (runS cs).n (.slice qa (runS cs).l.length qc) (runS cs).l V (Z HRQ V hV));have uJ:(pay (ttJ cs).ns).length<=80:=by have:=fC (ttJ cs).ns (ttJ_ok cs);simp only[Tt.ns,List.length_cons,List.length_nil] at this;exact this
 generalize endJ l n t cs=EJ at HEJ |-;generalize pay (ttJ cs).ns=PP at HEJ HPY uJ HTP;generalize wbT (runS cs).t (runS cs).l=t1 at HTP HWB;generalize (runS cs).t=t0 at jm HWB;generalize (runS cs).n=n0 at jm HWB;have HBJ:=Q jm;clear h hp A jm HRQ jc hX hY hB;generalize (runS cs).l=L at HBJ HWB qZ;generalize (l.drop n).take (t-n)=p at HEJ HPB HRP
 have oz:Hid (∀V,Below ((w.alloc (J #[.int .u8 m,.slice pa pl pc,H n,H s] 61)).alloc (J #[.bool false,H 0,H 0] 24)).heap.size ((w.alloc (J #[.int .u8 m,.slice pa pl pc,H n,H s] 61)).alloc (J #[.bool false,H 0,H 0] 24)) V->V.cell? (yq w 1)=some (.slice pa pl pc)/\V.cell? (U lV 2)=some (H t0.gr)/\V.cell? (U lV 3)=some (H t0.ac)/\V.cell? (U lV 4)=some (H t0.rf)/\V.cell? (U lV 5)=some (H t0.tr)/\V.cell? (U lV 6)=some (H t0.vo)/\V.cell? (U lV 7)=some (H t0.no)/\V.cell? (U lV 8)=some (H t0.li)/\V.cell? (U lV 9)=some (H t0.le)/\V.cell? (U lV 0)=some (H n0)/\V.cell? (U lV 1)=some (.slice qa L.length qc)):=fun V hV=>by
  have D:=zf (Z HX) hV (by omega);have E:=zf (zf (Z HBJ) (Z HB) hJl) hV (by omega);exact⟨Y D 1 rfl,Y E 2 rfl,Y E 3 rfl,Y E 4 rfl,Y E 5 rfl,Y E 6 rfl,Y E 7 rfl,Y E 8 rfl,Y E 9 rfl,Y E 0 rfl,Y E 1 rfl⟩
 have HZ:=Q hZ;clear hZ;go_enter Tryz.func30,Tryz.ntmps30;go_wp2_with fail;generalize ((w.alloc (J #[.int .u8 m,.slice pa pl pc,H n,H s] 61)).alloc (J #[.bool false,H 0,H 0] 24))=hk at HX HY HB oz HZ |-;have xW:Hid (yn hk hk.drew):=(Below.refl _ _).drew
 go_region_held3 (fun w'=>w'.cell? (yq w 1)=some (.slice pa pl pc)/\w'.cell? (U lV 2)=some (H t0.gr)/\w'.cell? (U lV 3)=some (H t0.ac)/\w'.cell? (U lV 4)=some (H t0.rf)/\w'.cell? (U lV 5)=some (H t0.tr)/\w'.cell? (U lV 6)=some (H t0.vo)/\w'.cell? (U lV 7)=some (H t0.no)/\w'.cell? (U lV 8)=some (H t0.li)/\w'.cell? (U lV 9)=some (H t0.le)/\w'.cell? (U lV 0)=some (H n0)/\w'.cell? (U lV 1)=some (.slice qa L.length qc)) (first|exact Z oz _ hq|exact Z oz _ (Z xW)|go_keep) (first|(go_at_call 43;refine(Z HWB _ ((Z HB).trans ((Z xW).mono (Z HB).size))).mono ?_;rintro e w2 ⟨rfl,xE⟩;have hq:=(Z xW).trans xE)|(go_at_call 42;refine(Z HTP _).mono ?_;rintro e w3 ⟨pv,rfl,xS,xN⟩;obtain⟨ra,rc,rfl⟩:=bRow_form xS;have hq2:=hq;clear hq;have hq:=hq2.trans (xN.mono hq2.size))|(go_at_call 34;refine(lQ _ _ p PP _ (Z HRP _ (lW (Z HB) hq)) (bRow_rd xS (by omega)) (Z HPB) (Z HPY)).mono ?_;rintro e w4 ⟨rfl,rfl⟩))
 have hz:=Z HZ;have oA:=Q (zf (Z HY) hq (by omega));have xw:=Q (zf (Z HX) hq (by omega));have xK:=Q (lW (Z HB) hq);clear xS hq hq2 xE xN HY HX HB xW oz HWB HTP HRP HPY HPB HBJ HZ;have x2:=Y (Z xw) 2 rfl;obtain ⟨z0,z1,z2⟩:=q0_3 (Z oA) rfl;obtain ⟨f0,f1,f2⟩:=r0_3 (Z oA) rfl
 by_cases hpp:p=PP
 ·have e1:decide (p=PP)=true:=by simpa using hpp
  rw[e1]
  by_cases kY:t+2<l.length
  ·have HF:Hid (EJ=(t+2,17)):=by show _ = _;rw[Z HEJ,if_neg (fun h=>h hpp),if_pos kY]
   have E:((t:Int)+2<l.length):=by omega
   clear hpp e1 kY;have xt:=Q (zk (us:=[.bool false,H (t+2),H 17]) (Z oA) rfl);have vB:=Q (zg (w.heap.size+1) (by omega) [.bool false,H (t+2),H 17] 0 w4 (Z xK));go_wp2_with fail;rw[set3];have d:=Z xt;refine bodyPost_ret (v:=vdV EJ) ?_ rfl ⟨rfl,Z vB⟩;rw[Z HF];simp[results,Tryz.results30,go_sem,vdV,Y d 0 rfl,Y d 1 rfl,Y d 2 rfl]
  ·have HF:Hid (EJ=(0,0)):=by show _ = _;rw[Z HEJ,if_neg (fun h=>h hpp),if_neg kY]
   have E:¬ ((t:Int)+2<l.length):=by omega
   clear hpp e1 kY;have xt:=Q (zk (us:=[.bool true,H 0,H 0]) (Z oA) rfl);have vB:=Q (zg (w.heap.size+1) (by omega) [.bool true,H 0,H 0] 0 w4 (Z xK));go_wp2_with fail;rw[set3];have d:=Z xt;refine bodyPost_ret (v:=vdV EJ) ?_ rfl ⟨rfl,Z vB⟩;rw[Z HF];simp[results,Tryz.results30,go_sem,vdV,Y d 0 rfl,Y d 1 rfl,Y d 2 rfl]
 ·have e1:decide (p=PP)=false:=by simpa using hpp
  have HF:Hid (EJ=(n,16)):=by show _ = _;rw[Z HEJ,if_pos hpp]
  rw[e1];clear hpp e1;have xt:=Q (zk (us:=[.bool false,H n,H 16]) (Z oA) rfl);have vB:=Q (zg (w.heap.size+1) (by omega) [.bool false,H n,H 16] 0 w4 (Z xK));go_wp2_with fail;rw[set3];have d:=Z xt;refine bodyPost_ret (v:=vdV EJ) ?_ rfl ⟨rfl,Z vB⟩;rw[Z HF];simp[results,Tryz.results30,go_sem,vdV,Y d 0 rfl,Y d 1 rfl,Y d 2 rfl]
theorem ttJ_eq {cs:List Cm}{T:Tot}(h:cs.length<=200)(ha:Al (runS cs).t T)(M:T.gr=cs.length):ttJ cs=⟨T.gr,T.ac,T.rf,T.tr,T.vo,T.no,(runS cs).l.length,livS (runS cs).l⟩:=by
 have hI:=gR cs h;have hl:=hI.1.good.len;have hf:(runS cs).t=(runS cs).g.foldl wgT tot0:=run_fold cs _ rfl;unfold ttJ wbT;generalize runS cs=s at hI hl hf ha |-;obtain⟨-,vY,hli,uB⟩:=wg_al s.g (t:=tot0) (u:=tot0) ⟨rfl,rfl,rfl,rfl,rfl⟩ (by show(0:Int)<=0;omega) (by show(0:Int) + _ <= _;omega);rw[<- hf] at vY hli uB;have hw:=wb_fold s.l s.t 0 (by rw[hli];show(0:Int)<=0;omega) (by rw[hli];show(0:Int) + _ <= _;omega);have ht:{ s.t with le:=0 } = s.t:=by rw[show(0:Int)=s.t.le from uB.symm]
 rw[ht] at hw;rw[hw];obtain⟨D,E,h3,h4,h5⟩:=ha;simp only[Tt.mk.injEq];refine⟨?_,D,E,h3,h4,h5,?_,rfl⟩
 ·rw[vY,M];show(0:Int) + _ = _;omega
 ·rw[hli];show(0:Int) + _ = _;omega
theorem take_succ_eq {l m:List Int}{i:Nat}(h:l.take i=m.take i)(D:i<l.length)(E:i<m.length)(he:l.getD i 0=m.getD i 0):l.take (i+1)=m.take (i+1):=by
 rw[List.take_add_one,List.take_add_one,h,yH D,yH E];simp only[List.getD,yH D,yH E,Option.getD_some] at he;rw[he]
theorem mend_any {w:World}{hg:Nat}{a:Option Addr}{c:Nat}{l:List Int}{k0 s:Int}{cs:List Cm}{T0:Tot}{vq vt:Value}(n t:Nat)(W:World)(h:MJ w hg (.slice a l.length c) k0 s 0 0 cs T0 vq vt W)(bz:cs.length<=200)(hT:T0.gr=cs.length)(hr:Rd w (.slice a l.length c) l)(A:Bts l)(hl:l.length<=65536)(hn:n<=t)(ht:t+2<=l.length) :
  Calls Tryz.prog 53 #[xj hg 0,H n,H t] W fun e w'=>e=ym (.tuple #[])/\∃T',MJ w hg (.slice a l.length c) k0 s (endJ l n t cs).2 (endJ l n t cs).1 cs T' vq vt w':=by
 have qZ:=(gR cs bz).1.good.len;obtain⟨qa,qc,rfl⟩:=fI h.row
 obtain⟨b,off,rfl,pH⟩:∃b off,a=some (U b off)/\∀i,i<l.length->w.cell? (U b (off+i))=some (.int .u8 (l.getD i 0)):=by
  obtain⟨a',qP,e,_,hxx⟩:=hr;obtain⟨b,off,e2,hc⟩:=hxx (by intro e;rw[e] at ht;simp at ht);simp only[Value.slice.injEq,true_and] at e;exact⟨b,off,e.1.trans e2,hc⟩
 have HCC:=Q pH;have uJ:((l.drop n).take (t-n)).length=t-n:=by rw[List.length_take,List.length_drop];omega
 have HPD:Hid (∀i,i<t-n->((l.drop n).take (t-n)).getD i 0=l.getD (n+i) 0):=fun i hi=>by
  simp[List.getD,hi,List.getElem?_drop]
 have HEJ:=Q (endJ.eq_1 l n t cs);have ps:=Q (ttJ_eq bz h.al hT);have jc:=Q (ttJ_ok cs);have hpy:(pay (ttJ cs).ns).length<=80:=by have:=fC (ttJ cs).ns (ttJ_ok cs);simp only[Tt.ns,List.length_cons,List.length_nil] at this;exact this
 have kZ:=Q (pay_bts (ttJ cs).ns);have bN:=Q (fun V hV=>l04Live_any (runS cs).n (.slice qa (runS cs).l.length qc) (runS cs).l V hV)
 have oY:Hid (∀V,Calls Tryz.prog 80 #[.agg #[H T0.gr,H T0.ac,H T0.rf,H T0.tr,H T0.vo,H T0.no,H (runS cs).l.length,H (livS (runS cs).l)]] V fun e w'=>∃v,e=ym v/\BRow w' V.heap.size v (pay (ttJ cs).ns)/\yn V w'):=fun V=>by
  have:=l06End_any (ttJ cs) (ttJ_ok cs) V;rw[Z ps] at this |-;exact this
 generalize endJ l n t cs=EJ at HEJ |-;generalize pay (ttJ cs).ns=PP at HEJ hpy kZ oY;generalize (l.drop n).take (t-n)=p at uJ HPD HEJ;have HM:=Q h;have HRQ:=Q (zP h.row (by omega));have c5:=Y h.mb.box 5 rfl;have c6:=Y h.mb.box 6 rfl;clear h hr A pH hT ps jc;go_enter Tryz.func53,Tryz.ntmps53;go_wp2_with fail;refine(Z bN W (Z HRQ)).mono ?_;rintro e w1 ⟨rfl,xR⟩;have jx:=Q (gL (Z HM) xR);clear xR HM HRQ bN c5 c6;generalize livS (runS cs).l=lv at oY |-;have c7:=Y (Z jx).mb.box 7 rfl;have c8:=Y (Z jx).mb.box 8 rfl;have c9:=Y (Z jx).mb.box 9 rfl;have c10:=Y (Z jx).mb.box 10 rfl;have c11:=Y (Z jx).mb.box 11 rfl;have c12:=Y (Z jx).mb.box 12 rfl;have c13:=Y (Z jx).mb.box 13 rfl;have c14:=Y (Z jx).mb.box 14 rfl;have f13:=zc (Z jx).mb.box 13 (by show _ < 18;decide);have f14:=zc (Z jx).mb.box 14 (by show _ < 18;decide);have xT:=Q (ij (T':={ T0 with li:=(runS cs).l.length,le:=lv }) (Z jx) 13 [H (runS cs).l.length,H lv] (Nat.le_of_ble_eq_true rfl) rfl ⟨(Z jx).al.ac,(Z jx).al.rf,(Z jx).al.tr,(Z jx).al.vo,(Z jx).al.no⟩);simp only[World.setCells] at xT;go_wp2_with fail;generalize ((w1.setCell (U hg 13) (H (runS cs).l.length)).setCell (U hg 14) (H lv))=W2 at xT |-;clear c7 c8 c9 c10 c11 c12 c13 c14 f13 f14 jx;refine(Z oY W2).mono ?_;rintro e w3 ⟨v,rfl,xS,xN⟩;obtain⟨va,vc,rfl⟩:=bRow_form xS;have ox:=Q (gL (Z xT) xN);have oF:=Q (bRow_rd xS (by omega));clear xS xN xT oY;have hsub:IntKind.i64.wrap ((t:Int)-n)=t-n:=by rw[IntKind.wrap_i64];omega
 obtain⟨sb,hsb⟩:∃sb,sb=decide ((t:Int)-n=PP.length):=⟨_,rfl⟩;have hsq:(((t:Int)-n)==PP.length)=sb:=by rw[hsb];rfl
 have HSB:Hid (sb=decide (t-n=PP.length)):=by rw[hsb];exact decide_eq_decide.2 (by omega)
 clear hsb;go_wp2_with fail
 try rw[hsq]
 go_loopw [7,8] (fun sv iv wr=>∃(i:Nat) (sb:Bool),i<=PP.length/\sv = .bool sb/\iv=H i/\Hid (sb=true->t-n=PP.length/\p.take i=PP.take i)/\Hid (sb=false->p≠PP)/\Hid (yn w3 wr)) (fun _ iv _=>PP.length-(intOf iv).toNat)
 case atStart=>exact⟨0,sb,Nat.zero_le _,rfl,rfl,fun h=>⟨by rw[Z HSB] at h;exact of_decide_eq_true h,by simp⟩,fun h e=>(by rw[Z HSB] at h;exact absurd (of_decide_eq_false h) (fun E=>E (by rw[<- uJ,e]))),Below.refl _ _⟩
 case round =>
  obtain⟨i,sb,hi,rfl,rfl,HY,HN,HB⟩:=hrel;have aC:=Q (gL (Z ox) (Z HB));have y0:=Y (Z aC).mb.box 0 rfl;clear hsq
  by_cases xH:sb=true/\i<PP.length
  ·obtain⟨rfl,xH⟩:=xH;have uq:(i:Int)<PP.length:=by omega
   obtain⟨heq,oD⟩:=Z HY rfl;have uV:=Q oD
   obtain⟨gb,go,rfl,hgc⟩:∃gb go,va=some (U gb go)/\∀i,i<PP.length->wr.cell? (U gb (go+i))=some (.int .u8 (PP.getD i 0)):=by
    obtain⟨a',qP,e,_,hxx⟩:=zN (Z oF) (Z HB) ya;obtain⟨b,off,e2,hc⟩:=hxx (by intro e;rw[e] at xH;simp at xH);simp only[Value.slice.injEq,true_and] at e;exact⟨b,off,e.1.trans e2,hc⟩
   have x1:=hgc i xH;have hni:n+i<l.length:=by omega
   have x0:wr.cell? (U b (off+(n+i)))=some (.int .u8 (l.getD (n+i) 0)):=((Z aC).mb.bel.cell (p:=(U b (off+(n+i)))) (yK w _ (Z HCC (n+i) hni))).trans (Z HCC (n+i) hni);rw[<- Z HPD i (by omega)] at x0;have HQ:Hid ((decide (p.getD i 0=PP.getD i 0)=true->t-n=PP.length/\p.take (i+1)=PP.take (i+1))/\(decide (p.getD i 0=PP.getD i 0)=false->p≠PP)):=⟨fun h=>⟨heq,take_succ_eq (Z uV) (by omega) xH (of_decide_eq_true h)⟩,fun h e=>of_decide_eq_false h (by rw[e])⟩;clear heq oD HY HN hgc;have hw0:IntKind.i64.wrap ((n:Int)+i)=n+i:=by rw[IntKind.wrap_i64];omega
   have hni1:((n:Int)+i<l.length):=by omega
   have hni2:(0:Int)<=(n:Int)+i:=by omega
   have hnt:((n:Int)+i).toNat=n+i:=by omega
   generalize p.getD i 0=u0 at x0 HQ;generalize PP.getD i 0=u1 at x1 HQ;obtain⟨db,hdb⟩:∃db,db=decide (u0=u1):=⟨_,rfl⟩;have hdq:(u0==u1)=db:=by rw[hdb];rfl
   rw[<- hdb] at HQ;clear hdb;go_wp2_with fail;go_quiet (fail);go_wp2_with fail
   try simp only[hdq]
   go_roundw
   case rel=>exact⟨i+1,db,by omega,rfl,by go_num,(Z HQ).1,(Z HQ).2,zp (Z HB) _⟩
   case measure=>simp[intOf];omega
  ·have HFL:Hid ((sb=true->p=PP)/\(sb=false->p≠PP)):=⟨fun h=>by
    have hge:¬ (i<PP.length):=fun E=>xH ⟨h,E⟩;obtain⟨D,E⟩:=Z HY h;rw[yZ (by omega),yZ (by omega)] at E;exact E,Z HN⟩
   have hcond:(decide ((i:Int)<PP.length)=false)\/(decide ((i:Int)<PP.length)=true/\sb=false):=by
    by_cases E:i<PP.length
    ·exact .inr ⟨by simp;omega,by cases sb with|false=>rfl|true=>exact absurd ⟨rfl,E⟩ xH⟩
    ·exact .inl (by simp;omega)
   clear xH HY HN;have aV:IntKind.i64.wrap ((t:Int)+2)=t+2:=by rw[IntKind.wrap_i64];omega
   cases sb with
   | false =>
    have HF:Hid (EJ=(n,16)):=by show _ = _;rw[Z HEJ,if_pos ((Z HFL).2 rfl)]
    by_cases E:(i:Int)<PP.length
    all_goals
     go_wp2_with fail;refine(mfail_mj 16 n wr (Z aC)).mono ?_;rintro e w5 ⟨rfl,qR⟩;have un:=Q qR;clear qR;go_wp2_with fail;go_end0;refine⟨rfl,{ T0 with li:=(runS cs).l.length,le:=lv },?_⟩;rw[Z HF];exact Z un
   | true =>
    have hge:¬ ((i:Int)<PP.length):=by rcases hcond with h|h;exact of_decide_eq_false h;exact absurd h.2 (by decide)
    by_cases kY:t+2<l.length
    ·have HF:Hid (EJ=(t+2,17)):=by show _ = _;rw[Z HEJ,if_neg (fun h=>h ((Z HFL).1 rfl)),if_pos kY]
     have E:((t:Int)+2<l.length):=by omega
     go_wp2_with fail;refine(mfail_mj 17 (t+2) wr (Z aC)).mono ?_;rintro e w5 ⟨rfl,qR⟩;have un:=Q qR;clear qR;go_wp2_with fail;go_end0;refine⟨rfl,{ T0 with li:=(runS cs).l.length,le:=lv },?_⟩;rw[Z HF];exact Z un
    ·have HF:Hid (EJ=(0,0)):=by show _ = _;rw[Z HEJ,if_neg (fun h=>h ((Z HFL).1 rfl)),if_neg kY]
     have E:¬ ((t:Int)+2<l.length):=by omega
     go_wp2_with fail;go_end0;refine⟨rfl,{ T0 with li:=(runS cs).l.length,le:=lv },?_⟩;rw[Z HF];exact Z aC
end Go.Proofs.YtbghmldggahjiaaGreatDoor
