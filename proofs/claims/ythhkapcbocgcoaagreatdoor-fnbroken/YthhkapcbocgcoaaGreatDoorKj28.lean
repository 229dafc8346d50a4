/-.-/
import Derived.Test.YthhkapcbocgcoaaGreatDoorKj12
set_option linter.unusedVariables false
set_option maxHeartbeats 6400000
set_option maxRecDepth 100000
namespace Go.Proofs.YthhkapcbocgcoaaGreatDoor
open Go.RowKit
theorem fq (n a b:Int)(w:World) :
  Calls Tryz.prog 31 #[H n,H a,H b] w fun e w'=>e = .returned (.bool (betB n a b))/\w'=w:=by
 go_enter Tryz.func31,Tryz.ntmps31;go_wp2
 all_goals go_ret
 all_goals exact⟨zp (by rw[Bool.eq_iff_iff];simp[betB];omega),rfl⟩
theorem l03Tag_any (s:ByteArray)(w:World)(hs:s.size<=maxLen) :
  Calls Tryz.prog 65 #[yk s] w fun e w'=>e = .returned (.bool (tagB s))/\w'=w:=by
 unfold maxLen at hs
 by_cases hl:s.size<=12
 ·have hl':¬ ((12:Int)<s.size):=by omega
  go_enter Tryz.func65,Tryz.ntmps65;go_wp2_with fail
  go_loop [3] (fun i=>∃k:Nat,k<=s.size/\i=H k/\Hid (s.data.toList.all tagC=(s.data.toList.drop k).all tagC)) (fun i=>s.size-(intOf i).toNat)
  case atStart=>exact⟨0,Nat.zero_le _,rfl,by simp[Hid]⟩
  case round =>
   obtain⟨k,hk,rfl,R⟩:=hrel
   by_cases xM:k<s.size
   ·have uL:(k:Int)<s.size:=by omega
    have ji:=drop_cons s k xM;have hw:betB (s[k].toNat:Int) 32 126=tagC s[k]:=rfl;cases ht:tagC s[k]
    ·have HT:Hid (s.data.toList.all tagC=false):=by
      have:=U R;rw[ji,List.all_cons,ht,Bool.false_and] at this;exact this
     rw[ht] at hw
     have hor:(s[k].toNat:Int)<32\/(32<=(s[k].toNat:Int)/\(126:Int)<s[k].toNat):=by
      simp[betB] at hw;omega
     clear ji ht hw;rcases hor with h32|⟨h32,h126⟩
     ·have hd:decide ((s[k].toNat:Int)<32)=true:=by simpa using h32
      go_wp2_with fail;go_ret;exact⟨zp (tag_no s (U HT)).symm,rfl⟩
     ·have hd:decide ((s[k].toNat:Int)<32)=false:=by simpa using h32
      go_wp2_with fail;go_ret;exact⟨zp (tag_no s (U HT)).symm,rfl⟩
    ·have HN:Hid (s.data.toList.all tagC=(s.data.toList.drop (k+1)).all tagC):=by
      have:=U R;rw[ji,List.all_cons,ht,Bool.true_and] at this;exact this
     rw[ht] at hw
     have hor:32<=(s[k].toNat:Int)/\(s[k].toNat:Int)<=126:=by
      simp[betB] at hw;omega
     obtain⟨h32,h126⟩:=hor;have hd:decide ((s[k].toNat:Int)<32)=false:=by simpa using h32
     have hd2:¬ ((126:Int)<s[k].toNat):=by omega
     clear ji ht hw;go_wp2_with fail
     go_round
     case rel=>exact⟨k+1,by omega,by go_num,U HN⟩
     case measure=>simp[intOf];omega
   ·go_wp2_with fail;go_ret;have h:=U R;rw[xb (by rw[data_len];omega)] at h;exact⟨zp (tag_yes s hl (by rw[h];rfl)).symm,rfl⟩
 ·have hl':(12:Int)<s.size:=by omega
  go_enter Tryz.func65,Tryz.ntmps65;go_wp2_with fail;go_ret;exact⟨zp (tag_long s hl).symm,rfl⟩
theorem l03Order_any (o:Od)(w:World)(hs:o.tag.size<=maxLen) :
  Calls Tryz.prog 32 #[.agg (yw o.id o.side o.ticks o.left o.life o.tag).toArray] w fun e w'=>e = .returned (.bool (ordB o))/\yn w w':=by
 have HT:=Z (fun W=>l03Tag_any o.tag W hs);clear hs;cases D:betB o.side 1 2
 ·go_enter Tryz.func32,Tryz.ntmps32;go_wp2_with (first|(go_at_call 65;refine(U HT _).mono ?_;rintro e w' ⟨rfl,rfl⟩)|(go_at_call 31;refine(fq _ _ _ _).mono ?_;rintro e w' ⟨rfl,rfl⟩));go_ret;exact⟨zp (by simp[ordB,D]),by go_grown⟩
 ·
  cases h4:betB o.ticks 1 1000000
  ·go_enter Tryz.func32,Tryz.ntmps32;go_wp2_with (first|(go_at_call 65;refine(U HT _).mono ?_;rintro e w' ⟨rfl,rfl⟩)|(go_at_call 31;refine(fq _ _ _ _).mono ?_;rintro e w' ⟨rfl,rfl⟩));go_ret;exact⟨zp (by simp[ordB,D,h4]),by go_grown⟩
  ·
   cases h5:betB o.left 1 1000000
   ·go_enter Tryz.func32,Tryz.ntmps32;go_wp2_with (first|(go_at_call 65;refine(U HT _).mono ?_;rintro e w' ⟨rfl,rfl⟩)|(go_at_call 31;refine(fq _ _ _ _).mono ?_;rintro e w' ⟨rfl,rfl⟩));go_ret;exact⟨zp (by simp[ordB,D,h4,h5]),by go_grown⟩
   ·
    cases Y:betB o.life 0 1
    ·go_enter Tryz.func32,Tryz.ntmps32;go_wp2_with (first|(go_at_call 65;refine(U HT _).mono ?_;rintro e w' ⟨rfl,rfl⟩)|(go_at_call 31;refine(fq _ _ _ _).mono ?_;rintro e w' ⟨rfl,rfl⟩));go_ret;exact⟨zp (by simp[ordB,D,h4,h5,Y]),by go_grown⟩
    ·
     cases h3:tagB o.tag
     ·go_enter Tryz.func32,Tryz.ntmps32;go_wp2_with (first|(go_at_call 65;refine(U HT _).mono ?_;rintro e w' ⟨rfl,rfl⟩)|(go_at_call 31;refine(fq _ _ _ _).mono ?_;rintro e w' ⟨rfl,rfl⟩));go_ret;exact⟨zp (by simp[ordB,D,h4,h5,Y,h3]),by go_grown⟩
     ·go_enter Tryz.func32,Tryz.ntmps32;go_wp2_with (first|(go_at_call 65;refine(U HT _).mono ?_;rintro e w' ⟨rfl,rfl⟩)|(go_at_call 31;refine(fq _ _ _ _).mono ?_;rintro e w' ⟨rfl,rfl⟩));go_ret;exact⟨zp (by simp[ordB,D,h4,h5,Y,h3]),by go_grown⟩
theorem l03Levels_any (v:Value)(l:List Od)(w:World)(hr:RdR Od.vs 6 w v l)(hn:l.length<=1000) :
  Calls Tryz.prog 33 #[v] w fun e w'=>e = .returned (H (nlev l:Nat))/\w.grownBy w' none:=by
 obtain⟨a,cap,rfl,xC,hc⟩:=hr
 have xt:∀(k:Nat) (c:Od),l[k]? = some c->∃b off,a=some (J b off)/\b<w.heap.size/\w.rangeAt b (off+k*6) c.vs:=by
  intro k c hk;obtain⟨b,off,D,Y,h3⟩:=hc (by intro h;rw[h] at hk;simp at hk);exact⟨b,off,D,Y,h3 k c hk⟩
 have HC:=Z xt;clear xt hc;go_enter Tryz.func33,Tryz.ntmps33;go_wp2_with fail;go_loopw [3,4] (fun nv iv wr=>∃(i n:Nat),nv=H n/\i<=l.length/\iv=H i/\Hid (n=nlev (l.take i))/\n<=i/\w.grownBy wr none) (fun _ iv _=>l.length-(intOf iv).toNat)
 case atStart=>exact⟨0,0,rfl,Nat.zero_le _,rfl,by simp[Hid,nlev,nlevR],Nat.le_refl _,yS _ _⟩
 case round =>
  obtain⟨i,n,rfl,hi,rfl,hnl,hni,X⟩:=hrel;have HG:=Z X;clear X
  by_cases xM:i<l.length
  ·obtain⟨c,vf⟩:∃c,l[i]? = some c:=⟨_,yI xM⟩;obtain⟨b,off,rfl,E,xn⟩:=U HC i c vf;have pv:=Z vf;have jZ:=Z xn;have uL:(i:Int)<l.length:=by omega
   have HNN:Hid (nlev (l.take (i+1))=n+(gg c (l.take i)).toNat):=by
    show _ = _;rw[takeR l i c vf,nlev_fresh,<- U hnl]
   clear vf xn hnl;go_wp2_with fail;go_loopw [5,6] (fun fv kv wq=>∃(k:Nat) (fb:Bool),fv = .bool fb/\k<=i/\kv=H k/\Hid (fb=gg c (l.take k))/\w.grownBy wq none) (fun _ kv _=>i-(intOf kv).toNat)
   case atStart=>exact⟨0,true,rfl,Nat.zero_le _,rfl,rfl,U HG⟩
   case round =>
    obtain⟨k,fb,rfl,hk,rfl,pB,X⟩:=hrel;have HGQ:=Z X;clear X
    by_cases hki:k<i
    ·obtain⟨y,hky⟩:∃y,l[k]? = some y:=⟨_,yI (by omega)⟩;obtain⟨b',off',kK,hb',kL⟩:=U HC k y hky;simp only[Option.some.injEq,Addr.mk.injEq,and_true] at kK;obtain⟨rfl,rfl⟩:=kK
     have ca:Hid (gg c (l.take (k+1))=(fb&&difB c y)):=by
      show _ = _;rw[takeR l k y hky,U pB,gg,List.all_append];simp[gg]
     obtain⟨-,e1,e2,-⟩:=zF (zr (U jZ) (U HGQ) E (by simp));obtain⟨-,d1,d2,-⟩:=zF (zr kL (U HGQ) E (by simp));have hki':(k:Int)<i:=by omega
     have cT:(k:Int)<l.length:=by omega
     have qv:∀(fb':Bool),fb'=(fb&&difB c y)->Hid (fb'=gg c (l.take (k+1))):=fun fb' h=>by show _ = _;rw[h,U ca]
     have aN:=Z qv;clear hky kL qv;cases fb
     ·go_wp2_with fail;go_quiet (fail);go_wp2_with fail;go_roundw
      case rel=>exact⟨k+1,false,rfl,by omega,by go_num,U aN _ rfl,gx (U HGQ) rfl rfl rfl rfl⟩
      case measure=>simp[intOf];omega
     ·by_cases D:y.side=c.side
      ·have h1':(y.side != c.side)=false:=by simpa using D
       by_cases Y:y.ticks=c.ticks
       ·have hd:(true&&difB c y)=false:=by simp[difB,D,Y]
        go_wp2_with fail;go_quiet (fail);go_wp2_with fail;go_roundw
        case rel=>exact⟨k+1,false,by first|rfl|simp[Y],by omega,by go_num,U aN _ hd.symm,gx (U HGQ) rfl rfl rfl rfl⟩
        case measure=>simp[intOf];omega
       ·have hd:(true&&difB c y)=true:=by simp[difB,Y]
        go_wp2_with fail;go_quiet (fail);go_wp2_with fail;go_roundw
        case rel=>exact⟨k+1,true,by first|rfl|simp[Y],by omega,by go_num,U aN _ hd.symm,gx (U HGQ) rfl rfl rfl rfl⟩
        case measure=>simp[intOf];omega
      ·have h1':(y.side != c.side)=true:=by simpa using D
       have hd:(true&&difB c y)=true:=by simp[difB,D]
       go_wp2_with fail;go_quiet (fail);go_wp2_with fail;go_roundw
       case rel=>exact⟨k+1,true,by first|rfl|simp,by omega,by go_num,U aN _ hd.symm,gx (U HGQ) rfl rfl rfl rfl⟩
       case measure=>simp[intOf];omega
    ·obtain rfl:k=i:=by omega
     have HF:=pB;cases fb
     ·have HE:Hid (nlev (l.take (k+1))=n):=by show _ = _;rw[U HNN,<- U HF];rfl
      clear pB;go_wp2_with fail;exact⟨⟨k+1,n,rfl,by omega,by go_num,(U HE).symm,by omega,U HGQ⟩,by simp[intOf];omega⟩
     ·have HE:Hid (nlev (l.take (k+1))=n+1):=by show _ = _;rw[U HNN,<- U HF];rfl
      clear pB;go_wp2_with fail;exact⟨⟨k+1,n+1,by go_num,by omega,by go_num,(U HE).symm,by omega,U HGQ⟩,by simp[intOf];omega⟩
  ·go_wp2_with fail;go_ret;have h:=U hnl;rw[xa (by omega)] at h;subst h;exact⟨rfl,U HG⟩
theorem l04Next_none (v:Value)(l:List Od)(t:Od)(w:World)(hr:RdR Od.vs 6 w v l)(hri:eo l)(hn:l.length<=1000)(uX:t.side=0\/t.side=1\/t.side=2)(h0:t.left=0) :
  Calls Tryz.prog 61 #[v,.agg (yw t.id t.side t.ticks t.left t.life t.tag).toArray] w fun e w'=>∃k:Int,e = .returned (H k)/\NexS l t k/\yn w w':=by
 have HR:=Z hr;obtain⟨a,cap,rfl,xC,hc⟩:=hr;have HRI:=Z hri;have xJ:0<=t.side:=by omega
 have ug:t.side<=2:=by omega
 have uf:Hid (yn w (w.alloc (mq (yw t.id t.side t.ticks t.left t.life t.tag).toArray 65))):=mn _ _;have HX:Hid (World.rangeAt (w.alloc (mq (yw t.id t.side t.ticks t.left t.life t.tag).toArray 65)) w.heap.size 0 t.vs/\w.heap.size<(w.alloc (mq (yw t.id t.side t.ticks t.left t.life t.tag).toArray 65)).heap.size):=⟨zm w t.vs 65,by simp⟩;have HN:=Z (nex_stop (l:=l) h0);have b0:(t.left==0)=true:=by simpa using h0
 clear hc hri uX h0;go_enter Tryz.func61,Tryz.ntmps61;go_wp2_with fail;generalize (w.alloc (mq (yw t.id t.side t.ticks t.left t.life t.tag).toArray 65))=W1 at uf HX |-;refine(lw _ l _ W1 (zi (U HR) (U uf) ya) (U HRI) hn).mono ?_;rintro e w2 ⟨k,rfl,hf,uD⟩;have xv:=Z ((U uf).trans ((lk uD (fun g X=>by cases X) ya).mono (U uf).size));have xG:=Z (zr (U HX).1 uD (U HX).2 (by simp));obtain⟨t0,t1,t2,t3,t4,t5⟩:=zF (U xG);clear hf uD xJ ug;go_wp2_with fail;go_quiet (fail);go_wp2_with fail;go_ret;exact⟨_,rfl,U HN,zR (U xv) _⟩
theorem hit_side {l:List Od}{k:Nat}{o:Od}{q:Int}(hk:l[k]? = some o)(hs:∀x∈l,x.side=1\/x.side=2):∀x∈dR l k o q,x.side=1\/x.side=2:=by
 intro x hx;unfold dR at hx;split at hx
 ·rcases List.mem_append.1 hx with h|h
  ·exact hs x (List.mem_of_mem_take h)
  ·exact hs x (List.mem_of_mem_drop h)
 ·rcases List.mem_or_eq_of_mem_set hx with h|rfl
  ·exact hs x h
  ·exact hs o (yP hk)
theorem matL_side {c:Cm}{id:Int}:∀(n:Nat) (l:List Od) (left:Int) (ts:List Ev),eo l->GoodL l->0<=left->left<=1000000->(∀x∈l,x.side=1\/x.side=2)->∀x∈(matL c id n l left ts).1,x.side=1\/x.side=2
 | 0,l,left,ts,_,_,_,_,hs=>hs
 | n+1,l,left,ts,hr,X,h0,D,hs=>by
  rw[matL]
  by_cases hl:0<left
  ·rw[if_pos hl];cases hf:dZ l (othS c.s) with
   | none=>exact hs
   | some o =>
    simp only
    by_cases hm:eB c o=true
    ·rw[if_pos hm];obtain⟨vr,_⟩:=gJ hf;obtain⟨k,hk⟩:=List.getElem?_of_mem vr;have Q:=X.left o vr;rw[fU hr hk,Int.toNat_natCast];have uD:=(gN X hk (qty:=min left o.left) (by omega) (by omega)).1;exact matL_side n _ _ _ uD.rise uD (by omega) (by omega) (hit_side hk hs)
    ·rw[if_neg hm];exact hs
  ·rw[if_neg hl];exact hs
def fullS (l:List Od)(t:Od):Bool:=decide (l.length=20)||decide (8<nlev (l ++ [t]))
theorem full_eq {l:List Od}{t:Od}(hl:l.length<=20)(hs:∀x∈l ++ [t],x.side=1\/x.side=2):fullB (l ++ [t])=fullS l t:=by
 unfold fullB fullS;have hn:=nlev_eq hs (fZ true _) (fZ false _)
 by_cases h:l.length=20
 ·rw[if_pos (by simp;omega)];simp[h]
 ·rw[if_neg (by simp;omega),ef,ef,List.length_map,List.length_map,hn];simp only[h,decide_false,Bool.false_or];rw[Bool.eq_iff_iff];simp only[xg];omega
def matS (next:Int)(c:Cm)(cs:List Od × Int × List Ev):Int:=
 if c.t=5/\0<cs.2.2.length then 11 else if c.t=4/\0<cs.2.1 then 12 else if next=1000000 then 13
 else if dT c.t=true then(if 0<cs.2.1 then(if cs.1.length=20 then 13 else if 8<nlev (cs.1 ++ [⟨next,c.s,tkS c.p,cs.2.1,c.l,c.g⟩]) then 13 else 0) else 0) else 0
theorem matS_eq {next:Int}{c:Cm}{l:List Od}(X:GoodL l)(uX:∀x∈l,x.side=1\/x.side=2)(hs:betB c.s 1 2=true)(hp:prcB c=true)(hq:betB c.q 1 1000000=true):matS next c (matL c next 21 l c.q [])=matR next c (matL c next 21 l c.q []):=by
 have hq':1<=c.q/\c.q<=1000000:=by simpa[betB] using hq
 have hgood:=iI (c:=c) (id:=next) 21 l c.q [] X (by omega) (by omega);have hside:=matL_side (c:=c) (id:=next) 21 l c.q [] X.rise X (by omega) (by omega) uX;generalize matL c next 21 l c.q []=cs at *;unfold matS matR
 by_cases D:c.t=5/\0<cs.2.2.length
 ·rw[if_pos D,if_pos D]
 rw[if_neg D,if_neg D]
 by_cases Y:c.t=4/\0<cs.2.1
 ·rw[if_pos Y,if_pos Y]
 rw[if_neg Y,if_neg Y]
 by_cases h3:next=1000000
 ·rw[if_pos h3,if_pos h3]
 rw[if_neg h3,if_neg h3]
 by_cases h4:dT c.t=true
 ·by_cases h5:0<cs.2.1
  ·rw[if_pos h4,if_pos h5,if_pos (show dT c.t=true/\0<cs.2.1 from⟨h4,h5⟩)]
   have aH:c.t≠2:=by
    intro e;rw[e] at h4;exact absurd h4 (by decide)
   have vD:tkOk c.p=true:=by unfold prcB at hp;rw[if_neg aH] at hp;exact hp
   have Q:({ ordO c next with left:=cs.2.1 }:Od)=⟨next,c.s,tkS c.p,cs.2.1,c.l,c.g⟩:=by
    unfold ordO;rw[tkS_ok vD]
   rw[Q]
   have hfe:=full_eq (l:=cs.1) (t:=⟨next,c.s,tkS c.p,cs.2.1,c.l,c.g⟩) hgood.1.len (fun x hx=>by
    rcases List.mem_append.1 hx with h|h
    ·exact hside x h
    ·simp at h;subst h;exact side_of hs)
   rw[hfe];unfold fullS
   by_cases h6:cs.1.length=20
   ·simp[h6]
   ·by_cases h7:8<nlev (cs.1 ++ [⟨next,c.s,tkS c.p,cs.2.1,c.l,c.g⟩])
    ·simp[h6,h7]
    ·simp[h6,h7]
  ·rw[if_pos h4,if_neg h5,if_neg (by simp[h5])]
 ·rw[if_neg h4,if_neg (by simp[h4])]
def refS (next:Int)(l:List Od)(c:Cm):Int:=
 if betB c.k 1 4=false then 1 else if ej c=false then 2 else if c.k=1 then newR next l c else if c.k=4 then 0
 else if c.k=3/\betB c.q 1 1000000=false then 7 else if plc l c.i<0 then 9
 else match l[(plc l c.i).toNat]? with|some o=>if c.k=3/\o.left<=c.q then 10 else 0|none=>0
theorem same_form {k s t l q i:Int}{p:Nat}{g:ByteArray}(hk:k=1\/k=2\/k=3\/k=4):ej ⟨k,s,t,l,q,i,p,g⟩=(if k=1 then dY ⟨1,s,t,l,q,0,p,g⟩ ⟨k,s,t,l,q,i,p,g⟩ else if k=2 then dY ⟨2,0,0,0,0,i,0,⟨#[]⟩⟩ ⟨k,s,t,l,q,i,p,g⟩ else if k=3 then dY ⟨3,0,0,0,q,i,0,⟨#[]⟩⟩ ⟨k,s,t,l,q,i,p,g⟩ else dY ⟨4,0,0,0,0,0,0,⟨#[]⟩⟩ ⟨k,s,t,l,q,i,p,g⟩):=by
 have hz:fbit 0=0:=by decide
 have he:(⟨#[]⟩:ByteArray).toList = []:=by unfold ByteArray.toList;rw[ByteArray.toList.loop];rfl
 have X:∀x:List UInt8,decide ([]=x)=x.isEmpty:=by intro x;cases x <;> rfl
 rw[Bool.eq_iff_iff];rcases hk with rfl|rfl|rfl|rfl
 ·simp[ej,dY];omega
 ·simp[ej,dY,hz,he];constructor
  ·rintro⟨⟨D,Y,h3,h4,h5⟩,h6⟩;exact⟨D.symm,Y.symm,h3.symm,h6.symm,h4.symm,h5⟩
  ·rintro⟨D,Y,h3,h6,h4,h5⟩;exact⟨⟨D.symm,Y.symm,h3.symm,h4.symm,h5⟩,h6.symm⟩
 ·simp[ej,dY,hz,he];constructor
  ·rintro⟨D,Y,h3,h4,h5⟩;exact⟨D.symm,Y.symm,h3.symm,h4.symm,h5⟩
  ·rintro⟨D,Y,h3,h4,h5⟩;exact⟨D.symm,Y.symm,h3.symm,h4.symm,h5⟩
 ·simp[ej,dY,hz,he];constructor
  ·rintro⟨⟨D,Y,h3,h4,h5⟩,h6,h7⟩;exact⟨D.symm,Y.symm,h3.symm,h6.symm,h7.symm,h4.symm,h5⟩
  ·rintro⟨D,Y,h3,h6,h7,h4,h5⟩;exact⟨⟨D.symm,Y.symm,h3.symm,h4.symm,h5⟩,h6.symm,h7.symm⟩
theorem ref_eq (next:Int)(l:List Od)(c:Cm):refS next l c=refR next l c:=by
 obtain⟨k,s,t,li,q,i,p,g⟩:=c
 by_cases hk:k=1\/k=2\/k=3\/k=4
 ·have E:betB k 1 4=true:=by simp[betB];omega
  have hf:=same_form (s:=s) (t:=t) (l:=li) (q:=q) (i:=i) (p:=p) (g:=g) hk;unfold refS refR;simp only[E,hf];rcases hk with rfl|rfl|rfl|rfl
  ·simp;cases dY ⟨1,s,t,li,q,0,p,g⟩ ⟨1,s,t,li,q,i,p,g⟩ <;> simp
  ·simp;cases dY ⟨2,0,0,0,0,i,0,⟨#[]⟩⟩ ⟨2,s,t,li,q,i,p,g⟩ <;> simp[idR]
   rcases lq l i with e|⟨k,o,e,Q⟩
   ·rw[e];rfl
   ·rw[e];simp[Q]
  ·simp;cases dY ⟨3,0,0,0,q,i,0,⟨#[]⟩⟩ ⟨3,s,t,li,q,i,p,g⟩ <;> simp[redR]
   cases betB q 1 1000000 <;> simp
   rcases lq l i with e|⟨k,o,e,Q⟩
   ·rw[e];rfl
   ·rw[e];simp[Q]
  ·simp;cases dY ⟨4,0,0,0,0,0,0,⟨#[]⟩⟩ ⟨4,s,t,li,q,i,p,g⟩ <;> simp
 ·have E:betB k 1 4=false:=by
   cases h:betB k 1 4
   ·rfl
   ·simp[betB] at h;omega
  unfold refS refR;simp only[E];simp;rw[if_neg (by omega),if_neg (by omega),if_neg (by omega),if_neg (by omega)]
theorem ls {B b:Nat}{v:Value}{l:List Ev}(E:some b≠v.ownBlock):∀(vs:List Value) (o:Nat) (W:World),ERow W B v l->ERow (W.setCells b o vs) B v l
 | [],_,_,h=>h
 | u::us,o,W,h=>by rw[World.setCells];exact ls E us (o+1) _ (ek h E o u)
def MaI (c:Cm)(next:Int)(w:World)(v:Value)(l:List Od)(tt:Int)(cs:List Od × Int × List Ev)(m:Nat)(lv ev kv:Value)(wr:World):Prop:=
 ∃(l':List Od) (left:Int) (ts:List Ev) (k:Int),kv=H k/\((lv=v/\l'=l)\/ORow wr (w.heap.size+1+1) lv l')/\ERow wr (w.heap.size+1+1) ev ts/\NexS l' ⟨next,c.s,tt,left,c.l,c.g⟩ k/\MI c next cs l' left ts /\
  wr.rangeAt w.heap.size 0 [H next,H c.s,H tt,H left,H c.l,yk c.g]/\wr.there w.heap.size 0 6/\wr.there (w.heap.size+1) 0 6/\yn w wr/\w.heap.size+1+1<=wr.heap.size/\2*l'.length+(if 0<left then 1 else 0)<=m
theorem ma_end {c:Cm}{next tt:Int}{cs:List Od × Int × List Ev}{l':List Od}{left:Int}{ts:List Ev}(htt:tt=tkS c.p)(hs:c.s=1\/c.s=2)(hp:prcB c=true)(hm:MI c next cs l' left ts)(h:left=0\/dZ l' (othS c.s)=none \/ ∃o,dZ l' (othS c.s)=some o/\fw c.s tt o=false):cs=(l',left,ts):=by
 subst htt;rcases h with h|h|⟨o,h,Y⟩
 ·exact mi_done hm (by omega)
 ·exact mi_none hm h
 ·rw[cross_meet hp] at Y;exact mi_stop hm h Y
def MatEnd (w:World)(v:Value)(l:List Od)(w':World)(v' ve:Value)(cs:List Od × Int × List Ev):Prop:=
 ((v'=v/\cs.1=l)\/ORow w' w.heap.size v' cs.1)/\ERow w' w.heap.size ve cs.2.2/\yn w w'
theorem eRow_base {W:World}{B B':Nat}{v:Value}{l:List Ev}(h:ERow W B v l)(hB:B'<=B):ERow W B' v l:=
 ⟨h.1,by
  rcases h.2 with h|⟨g',c',xA,D,Y,h3⟩
  ·exact .inl h
  ·exact .inr ⟨g',c',xA,D,yO hB Y,h3⟩⟩
theorem l04Match_any (v:Value)(l:List Od)(c:Cm)(next:Int)(w:World)(hr:RdR Od.vs 6 w v l)(X:GoodL l)(hs:c.s=1\/c.s=2)(hp:prcB c=true)(bx:0<=c.q)(pE:c.q<=1000000) :
  Calls Tryz.prog 40 #[v,.agg #[H next,H c.s,H (tkS c.p),H c.q,H c.l,yk c.g]] w fun e w'=>∃v' ve,e = .returned (.tuple #[v',.agg #[H next,H c.s,H (tkS c.p),H (matL c next 21 l c.q []).2.1,H c.l,yk c.g],ve])/\MatEnd w v l w' v' ve (matL c next 21 l c.q []):=by
 obtain⟨i0,vk,uI,uG,uZ⟩:=info_parts infoEv;have HMI0:=Z (mi_start (c:=c) (id:=next) X bx pE);have HR:=Z hr;have qQ:=Z X;have HS:=Z hs;have HP:=Z hp;generalize htt:tkS c.p=tt;have HTT:=Z htt.symm;generalize matL c next 21 l c.q []=cs at HMI0 |-;obtain⟨a,cap,rfl,xC,hc⟩:=hr;obtain⟨ck,F,ct,O,cq,ci,cp,cg⟩:=c;simp only at hs bx pE htt HTT HS |-;clear hc X hp xC htt;have xJ:=zf w (Obj.cells #[H next,H F,H tt,H cq,H O,yk cg] 65);have ug:((w.alloc (Obj.cells #[H next,H F,H tt,H cq,H O,yk cg] 65)).alloc (Obj.cells #[H 0,H 0,H 0,H 0,H 0,yk ⟨#[]⟩] 65)).heap.size=w.heap.size+1+1:=by rw[zf,xJ]
 have oK:(((w.alloc (Obj.cells #[H next,H F,H tt,H cq,H O,yk cg] 65)).alloc (Obj.cells #[H 0,H 0,H 0,H 0,H 0,yk ⟨#[]⟩] 65)).alloc (Obj.cells #[] 37)).heap.size=w.heap.size+1+1+1:=by rw[zf,ug]
 have r1:=zm w [H next,H F,H tt,H cq,H O,yk cg] 65;have t1:=zW w [H next,H F,H tt,H cq,H O,yk cg] 65;have t2:=zW (w.alloc (Obj.cells #[H next,H F,H tt,H cq,H O,yk cg] 65)) [H 0,H 0,H 0,H 0,H 0,yk ⟨#[]⟩] 65;rw[xJ] at t2;have e3:=World.ownsRow_made (base:=w.heap.size+1+1) (e:=37) (size:=14) ((w.alloc (Obj.cells #[H next,H F,H tt,H cq,H O,yk cg] 65)).alloc (Obj.cells #[H 0,H 0,H 0,H 0,H 0,yk ⟨#[]⟩] 65)) #[] 0 (by omega) (by decide) rfl;rw[ug] at e3;have b1:=mn w (Obj.cells #[H next,H F,H tt,H cq,H O,yk cg] 65);have b2:Below (w.heap.size+1) (w.alloc (Obj.cells #[H next,H F,H tt,H cq,H O,yk cg] 65)) ((w.alloc (Obj.cells #[H next,H F,H tt,H cq,H O,yk cg] 65)).alloc (Obj.cells #[H 0,H 0,H 0,H 0,H 0,yk ⟨#[]⟩] 65)):=(Below.refl _ _).alloc (by omega) _;have b3:Below (w.heap.size+1+1) ((w.alloc (Obj.cells #[H next,H F,H tt,H cq,H O,yk cg] 65)).alloc (Obj.cells #[H 0,H 0,H 0,H 0,H 0,yk ⟨#[]⟩] 65)) (((w.alloc (Obj.cells #[H next,H F,H tt,H cq,H O,yk cg] 65)).alloc (Obj.cells #[H 0,H 0,H 0,H 0,H 0,yk ⟨#[]⟩] 65)).alloc (Obj.cells #[] 37)):=(Below.refl _ _).alloc (by omega) _;have b23:=b2.trans (b3.mono (by omega));have HX:Hid (_/\_/\_/\_):=⟨zc r1 b23 (by omega),zl t1 b23 (by omega),zl t2 b3 (by omega),e3⟩;have xI:=Z (b1.trans (b23.mono (by omega)));have jT:=Z oK;clear xJ ug oK r1 t1 t2 b1 b2 b3 b23 e3;go_enter Tryz.func40,Tryz.ntmps40;refine ms fun mR xE=>?_;go_wp2_with fail;refine U xE _ _ ?_;clear xE;refine ms fun mR xE=>?_;go_wp2_with fail;refine U xE _ _ ?_;clear xE;generalize (((w.alloc (Obj.cells #[H next,H F,H tt,H cq,H O,yk cg] 65)).alloc (Obj.cells #[H 0,H 0,H 0,H 0,H 0,yk ⟨#[]⟩] 65)).alloc (Obj.cells #[] 37))=hg at HX xI jT |-;have HX:Hid (hg.rangeAt w.heap.size 0 [H next,H F,H tt,H cq,H O,yk cg]/\hg.there w.heap.size 0 6/\hg.there (w.heap.size+1) 0 6/\hg.ownsRow (w.heap.size+1+1) 37 14 (.slice (some (J (w.heap.size+1+1) 0)) 0 0) 0 []):=U HX;obtain⟨c0,c1,c2,c3,c4,c5⟩:=yD (U HX).1;go_wp2_with fail;refine(lU _ l ⟨next,F,tt,cq,O,cg⟩ hg (zi (U HR) (U xI) ya) (U qQ).rise (by have:=(U qQ).len;omega) (U HS)).mono ?_;rintro e w2 ⟨k,rfl,qy,xO⟩
 have uP:Hid (MaI ⟨ck,F,ct,O,cq,ci,cp,cg⟩ next w (.slice a l.length cap) l tt cs (2*l.length+1) (.slice a l.length cap) (.slice (some (J (w.heap.size+1+1) 0)) 0 0) (H k) w2):=by
  have oK:=U jT;refine⟨l,cq,[],k,rfl,.inl ⟨rfl,rfl⟩,?_,qy,U HMI0,zc (U HX).1 xO (by omega),zl (U HX).2.1 xO (by omega),zl (U HX).2.2.1 xO (by omega),(U xI).trans (xO.mono (U xI).size),by have:=xO.size;omega,by split <;> omega⟩;exact ff (l:=[]) (U HX).2.2.2 xO
 clear qy xO c0 c1 c2 c3 c4 c5 HX xI jT HMI0;go_wp2_with fail
 go_loopg [0,7,8] (2*l.length+1) (fun m lv ev kv wr=>MaI ⟨ck,F,ct,O,cq,ci,cp,cg⟩ next w (.slice a l.length cap) l tt cs m lv ev kv wr)
 case atStart=>exact U uP
 case round =>
  obtain⟨l',left,ts,kx,rfl,hlv,kj,qy,aD,hrt,ht0,ht1,pl,km,hme⟩:=hrel;have pu:=Z kj;have HMI:=Z aD;have au:=Z hrt;have HT0:=Z ht0;have jJ:=Z ht1;have uN:=Z pl;have HLV:=Z hlv
  have vn:Hid (RdR Od.vs 6 wr u0 l'):=by
   rcases hlv with⟨rfl,rfl⟩|h
   ·exact zi (U HR) pl ya
   ·exact zI h (by have:=aD.good.len;omega)
  have xC:=aD.good.len;have jN:=aD.l0;have hl1:=aD.l1;have hfew:=aD.few;clear kj hrt ht0 ht1 pl uP hlv;rcases qy with⟨rfl,vB⟩|⟨i,o,rfl,hi,jx,pY,cM,bS⟩
  ·have HF:=Z (ma_end (U HTT) (U HS) (U HP) aD vB);clear vB aD;go_wp2_with fail;obtain⟨V0,bQ⟩:∃V:World,V = { wr with drawn:=wr.drawn+1 }:=⟨_,rfl⟩;have HLV:Hid ((u0 = .slice a l.length cap/\l'=l)\/ORow V0 (w.heap.size+1+1) u0 l'):=by rw[bQ];exact U HLV
   have pu:Hid (ERow V0 (w.heap.size+1+1) u7 ts):=by rw[bQ];exact U pu
   have au:Hid (V0.rangeAt w.heap.size 0 [H next,H F,H tt,H left,H O,yk cg]):=by rw[bQ];exact U au
   have jJ:Hid (V0.there (w.heap.size+1) 0 6):=by rw[bQ];exact U jJ
   have uN:Hid (yn w V0):=by rw[bQ];exact(U uN).trans ⟨rfl,rfl,rfl,Nat.le_refl _,fun _ _=>rfl⟩
   obtain⟨V1,kJ⟩:∃V:World,V=V0.setCells (w.heap.size+1) 0 [H next,H F,H tt,H left,H O,yk cg]:=⟨_,rfl⟩;have qe:Hid (V1.rangeAt (w.heap.size+1) 0 [H next,H F,H tt,H left,H O,yk cg]):=by rw[kJ];exact yY V0 _ 0 _ (fun j hj=>U jJ j hj)
   have xp:Hid (MatEnd w (.slice a l.length cap) l V1 u0 u7 cs):=by
    rw[U HF];refine⟨?_,?_,?_⟩
    ·rcases U HLV with h|h
     ·exact .inl h
     ·exact .inr (by rw[kJ];exact zU (iz (by omega) _ _ _ h) (by omega))
    ·rw[kJ];refine eRow_base (ls (fun e=>?_) _ _ _ (U pu)) (show w.heap.size<=w.heap.size+1+1 by omega);have:=((U pu).lt _ e.symm).1;omega
    ·rw[kJ];exact zh _ (by omega) _ _ _ (U uN)
   have HFL:Hid (cs.2.1=left):=by show _ = _;rw[U HF]
   have HV0:=Z bQ;have HV1:=Z kJ;clear bQ kJ HLV pu uN;refine zu (R8A (fun f=>{ tmps:=#[u0,.agg #[H next,H F,H tt,H cq,H O,yk cg],M,I w.heap.size 0,f 3,I (w.heap.size+1) 0,f 5,u7,H (-1),u9,.slice (some (J (w.heap.size+1+1) 0)) 0 0,.slice a l.length cap,.agg #[H next,H F,H tt,H cq,H O,yk cg],H k,H (-1),.bool false,u16,u17,u18,u19,u20,u21,u22,u23,u24,u25,u26,u27,u28,u29,u30,u31,f 0,f 1,f 2],defers:=[] }) u0 (.agg #[H next,H F,H tt,H left,H O,yk cg]) u7 V0 V1 V1) (by kernel_rfl) ?_ ?_ ?_
   ·exact⟨fun j=>if j=3 then .slice none 0 0 else if j=5 then .slice none 0 0 else M,rfl,⟨by simp,by simp,by simp,by simp,by simp,fun _=>(U HV0).symm,by simp,by simp⟩⟩
   ·rintro x zb V' ⟨f,rfl,L⟩ hx xS;have xq:=fP xS hx (by kernel_rfl);have e3:=L.f3 (xq 3 (by simp));have e5:=L.f5 (xq 5 (by simp));have eW:=L.s2 (xq 4 (by simp)) (xq 5 (by simp));subst eW;simp only[e3,e5];clear L xq e3 e5 xS hx;obtain⟨d0,d1,d2,d3,d4,d5⟩:=yD (U qe);go_wp2_with fail
    try simp +zetaDelta only[Exit.noGoto_ret]
    try simp only[Exit.inBlock,Exit.then]
    refine bodyPost_ret (by simp[results,Tryz.results40,go_sem,d0,d1,d2,d3,d4,d5];try rfl) rfl ?_;exact⟨u0,u7,by rw[U HFL],U xp⟩
   ·rintro x zb V' i' o' ⟨f,rfl,L⟩ xn hx Q xu R
    have n5:i'<5->x[5]? = some false:=fun xM=>by
     rcases fN hx (show 5<6 by omega) with h|h
     ·exact h
     ·have:=xn 5 _ rfl h ⟨i',.phase⟩ (by rcases(by omega:i'=0\/i'=1\/i'=2\/i'=3\/i'=4) with rfl|rfl|rfl|rfl|rfl <;> simp) rfl;rw[xu] at this;cases this
    have n4:i'=0\/i'=1\/i'=3->x[4]? = some false:=fun xM=>by
     rcases fN hx (show 4<6 by omega) with h|h
     ·exact h
     ·have:=xn 4 _ rfl h ⟨i',.phase⟩ (by rcases xM with rfl|rfl|rfl <;> simp) rfl;rw[xu] at this;cases this
    have xw:=Z L;clear xn
    match i',Q with
    | 0,Q =>
     cases Q;clear R L;go_simp;exact⟨upd f 0 u0,by simp[upd],r8_val (U xw) 0 _ (by omega) (fun _=>rfl) (by omega) (by omega) (by omega)⟩
    | 1,Q =>
     cases Q;have eV:=L.s0 (n4 (by omega));subst eV;obtain⟨c0,c1,c2,c3,c4,c5⟩:=yD (U au);clear R L;go_simp;exact⟨upd f 1 (.agg #[H next,H F,H tt,H left,H O,yk cg]),by simp[upd],r8_val (U xw) 1 _ (by omega) (by omega) (fun _=>rfl) (by omega) (by omega)⟩
    | 2,Q =>
     cases Q;clear R L;go_simp;exact⟨upd f 2 u7,by simp[upd],r8_val (U xw) 2 _ (by omega) (by omega) (by omega) (fun _=>rfl) (by omega)⟩
    | 3,Q =>
     cases Q;have g0:=L.f0 (ye R 0 rfl);clear R L;go_simp;exact⟨upd f 3 u0,by simp[upd,g0],r8_val (U xw) 3 _ (by omega) (by omega) (by omega) (by omega) (fun _=>rfl)⟩
    | 4,Q =>
     cases Q;have g1:=L.f1 (ye R 1 rfl);have eV:=L.s0 xu;subst eV;have ue:=U jJ;obtain⟨y0,z0,q0⟩:=zj ue (j:=0) (by omega);obtain⟨y1,z1,q1⟩:=zj ue (j:=1) (by omega);obtain⟨y2,z2,q2⟩:=zj ue (j:=2) (by omega);obtain⟨y3,z3,q3⟩:=zj ue (j:=3) (by omega);obtain⟨y4,z4,q4⟩:=zj ue (j:=4) (by omega);obtain⟨y5,z5,q5⟩:=zj ue (j:=5) (by omega);have n5':=n5 (by omega);clear R L ue;go_simp;have cw:=r8_4 (U xw) xu n5'
     conv at cw=>arg 9;rw[U HV1]
     exact⟨f,by simp[g1],cw⟩
    | 5,Q =>
     cases Q;have g2:=L.f2 (ye R 2 rfl);have k4:x[4]? = some true:=R ⟨4,.chain⟩ (by simp) rfl;have eV:=L.s1 k4 xu;subst eV;have px:=r8_5 (U xw) k4 xu;clear R L;go_simp;exact⟨upd f 5 u7,by simp[upd,g2],px⟩
    | i'+6,Q=>simp at Q
  ·have h0:0<left:=by simp only at bS;omega
   obtain⟨k2,_,cS,hmi2,hme2⟩:=mi_step aD h0 pY (by rw[<- cross_meet (U HP),<- U HTT];exact cM);obtain rfl:i=k2:=rise_id aD.good.rise jx cS rfl;have Q:=aD.good.left o (yP jx);have HMI2:=Z hmi2;have HIO:=Z jx;clear hmi2 aD pY cM bS cS jx;have hii:(0:Int)<=i:=by omega
   refine ms fun mR xE=>?_;go_wp2_with fail;refine U xE _ _ ?_;clear xE;refine ms fun mR xE=>?_;refine wp_block ?_;refine ms fun K2 jH=>?_;have hsf:=sfl;go_wp2_with fail;refine U jH _ _ ?_;clear jH;have az:=mn wr (Obj.cells #[H 0,H 0,H 0,H 0,H 0,H 0,H 0,yj 0,yk ⟨#[]⟩,H 0,H 0,H 0,H 0,H 0] 37);have hsY:=zf wr (Obj.cells #[H 0,H 0,H 0,H 0,H 0,H 0,H 0,yj 0,yk ⟨#[]⟩,H 0,H 0,H 0,H 0,H 0] 37);have au:=Z (zc (U au) az (by omega));have HT0:=Z (zl (U HT0) az (by omega));have jJ:=Z (zl (U jJ) az (by omega));have HER2:=Z (ff (U pu) az);have HEB:Hid (∀g,u7.ownBlock=some g->w.heap.size+1+1<=g/\g<wr.heap.size):=fun g X=>(U pu).lt g X;have vn:=Z (zi (U vn) az ya);have jh:=Z (zW wr [H 0,H 0,H 0,H 0,H 0,H 0,H 0,yj 0,yk ⟨#[]⟩,H 0,H 0,H 0,H 0,H 0] 37);have uN:=Z (mr (U uN) az);clear az pu HLV;have jh:Hid (World.there (wr.alloc (Obj.cells #[H 0,H 0,H 0,H 0,H 0,H 0,H 0,yj 0,yk ⟨#[]⟩,H 0,H 0,H 0,H 0,H 0] 37)) wr.heap.size 0 14):=U jh;generalize wr.alloc (Obj.cells #[H 0,H 0,H 0,H 0,H 0,H 0,H 0,yj 0,yk ⟨#[]⟩,H 0,H 0,H 0,H 0,H 0] 37)=h2 at au HT0 jJ HER2 vn jh uN hsY |-;generalize wr.heap.size=hb at HEB jh hsY km |-;obtain⟨c0,c1,c2,c3,c4,c5⟩:=yD (U au);refine ms fun K2 jH=>?_;go_wp2_with fail;refine(l04Hit_any _ l' ⟨next,F,tt,left,O,cg⟩ o i h2 (U vn) (by omega) (U HIO) jN hl1 (by omega) Q.2).mono ?_;rintro e w2 ⟨v2,rfl,aE,xO⟩;simp only[Od.vs,Ev.vs,trE,zCm];simp only at aE;have hq0':0<=min left o.left:=by omega
   generalize min left o.left=q at aE HMI2 hme2 hq0' |-;have je:=Z aE;have xv:=Z xO;have hTa:=zl (U HT0) xO (by omega);have bP:=zl (U jh) xO (by omega);have kY:=Z hTa;have HTB:=Z bP;have HT1':=Z (zl (U jJ) xO (by omega));have HER3:=Z (ff (U HER2) xO);have HBW2:=Z (mr (U uN) xO);have ug:=xO.size;obtain⟨ya0,za0,qa0⟩:=zj hTa (j:=0) (by omega);obtain⟨ya1,za1,qa1⟩:=zj hTa (j:=1) (by omega);obtain⟨ya2,za2,qa2⟩:=zj hTa (j:=2) (by omega);obtain⟨ya3,za3,qa3⟩:=zj hTa (j:=3) (by omega);obtain⟨ya4,za4,qa4⟩:=zj hTa (j:=4) (by omega);obtain⟨ya5,za5,qa5⟩:=zj hTa (j:=5) (by omega);obtain⟨yb0,zb0,qb0⟩:=zj bP (j:=0) (by omega);obtain⟨yb1,zb1,qb1⟩:=zj bP (j:=1) (by omega);obtain⟨yb2,zb2,qb2⟩:=zj bP (j:=2) (by omega);obtain⟨yb3,zb3,qb3⟩:=zj bP (j:=3) (by omega);obtain⟨yb4,zb4,qb4⟩:=zj bP (j:=4) (by omega);obtain⟨yb5,zb5,qb5⟩:=zj bP (j:=5) (by omega);obtain⟨yb6,zb6,qb6⟩:=zj bP (j:=6) (by omega);obtain⟨yb7,zb7,qb7⟩:=zj bP (j:=7) (by omega);obtain⟨yb8,zb8,qb8⟩:=zj bP (j:=8) (by omega);obtain⟨yb9,zb9,qb9⟩:=zj bP (j:=9) (by omega);obtain⟨yb10,zb10,qb10⟩:=zj bP (j:=10) (by omega);obtain⟨yb11,zb11,qb11⟩:=zj bP (j:=11) (by omega);obtain⟨yb12,zb12,qb12⟩:=zj bP (j:=12) (by omega);obtain⟨yb13,zb13,qb13⟩:=zj bP (j:=13) (by omega);have hES:hb≠w.heap.size:=by omega
   have hSE:w.heap.size≠hb:=by omega
   clear c0 c1 c2 c3 c4 c5 aE xO hTa bP HT0 jh jJ HER2 uN vn au;go_wp2_with fail;refine U jH _ _ ?_;clear jH za0 qa0 za1 qa1 za2 qa2 za3 qa3 za4 qa4 za5 qa5 zb0 qb0 zb1 qb1 zb2 qb2 zb3 qb3 zb4 qb4 zb5 qb5 zb6 qb6 zb7 qb7 zb8 qb8 zb9 qb9 zb10 qb10 zb11 qb11 zb12 qb12 zb13 qb13;have eW:((((((((((((((((((((w2.setCell (J w.heap.size 0) (H next)).setCell (J w.heap.size 1) (H F)).setCell (J w.heap.size 2) (H tt)).setCell (J w.heap.size 3) (H (left-q))).setCell (J w.heap.size 4) (H O)).setCell (J w.heap.size 5) (yk cg)).setCell (J hb 0) (H 3)).setCell (J hb 1) (H 0)).setCell (J hb 2) (H 0)).setCell (J hb 3) (H 0)).setCell (J hb 4) (H 0)).setCell (J hb 5) (H 0)).setCell (J hb 6) (H 0)).setCell (J hb 7) (yj 0)).setCell (J hb 8) (yk ⟨#[]⟩)).setCell (J hb 9) (H next)).setCell (J hb 10) (H o.id)).setCell (J hb 11) (H q)).setCell (J hb 12) (H o.ticks)).setCell (J hb 13) (H 0))=(w2.setCells w.heap.size 0 [H next,H F,H tt,H (left-q),H O,yk cg]).setCells hb 0 [H 3,H 0,H 0,H 0,H 0,H 0,H 0,yj 0,yk ⟨#[]⟩,H next,H o.id,H q,H o.ticks,H 0]:=rfl;rw[eW];clear eW;obtain⟨V1,kJ⟩:∃V:World,V=w2.setCells w.heap.size 0 [H next,H F,H tt,H (left-q),H O,yk cg]:=⟨_,rfl⟩;rw[<- kJ];have qe:Hid (V1.rangeAt w.heap.size 0 [H next,H F,H tt,H (left-q),H O,yk cg]):=by rw[kJ];exact yY w2 _ 0 _ (fun j hj=>U kY j hj)
   have ch:Hid (V1.there w.heap.size 0 6):=by rw[kJ];exact xc (U kY) _ _ _
   have uj:Hid (V1.there (w.heap.size+1) 0 6):=by rw[kJ];exact xc (U HT1') _ _ _
   have vw:Hid (V1.there hb 0 14):=by rw[kJ];exact xc (U HTB) _ _ _
   have jI:Hid (ORow V1 h2.heap.size v2 (dR l' i o q)):=by rw[kJ];exact iz (by omega) _ _ _ (U je)
   have bI:Hid (ERow V1 (w.heap.size+1+1) u7 ts):=by rw[kJ];exact ls (fun e=>by have:=(U HEB _ e.symm).1;omega) _ _ _ (U HER3)
   have uf:Hid (yn w V1):=by rw[kJ];exact zh _ ya _ _ _ (U HBW2)
   have xJ:V1.heap.size=w2.heap.size:=by rw[kJ,fO]
   clear kJ;obtain⟨V2,kz⟩:∃V:World,V=V1.setCells hb 0 [H 3,H 0,H 0,H 0,H 0,H 0,H 0,yj 0,yk ⟨#[]⟩,H next,H o.id,H q,H o.ticks,H 0]:=⟨_,rfl⟩;rw[<- kz];have uK:Hid (V2.rangeAt hb 0 [H 3,H 0,H 0,H 0,H 0,H 0,H 0,yj 0,yk ⟨#[]⟩,H next,H o.id,H q,H o.ticks,H 0]):=by rw[kz];exact yY V1 _ 0 _ (fun j hj=>U vw j hj)
   have qM:Hid (V2.rangeAt w.heap.size 0 [H next,H F,H tt,H (left-q),H O,yk cg]):=by rw[kz];exact lK (U qe) (by omega)
   have xU:Hid (V2.there w.heap.size 0 6):=by rw[kz];exact xc (U ch) _ _ _
   have xT:Hid (V2.there (w.heap.size+1) 0 6):=by rw[kz];exact xc (U uj) _ _ _
   have ka:Hid (ORow V2 h2.heap.size v2 (dR l' i o q)):=by rw[kz];exact iz (by omega) _ _ _ (U jI)
   have kC:Hid (ERow V2 (w.heap.size+1+1) u7 ts):=by rw[kz];exact ls (fun e=>by have:=(U HEB _ e.symm).2;omega) _ _ _ (U bI)
   have xF:Hid (yn w V2):=by rw[kz];exact zh _ (by omega) _ _ _ (U uf)
   have pF:h2.heap.size<=V2.heap.size:=by rw[kz,fO,xJ];exact ug
   clear kz qe ch uj vw jI bI uf xJ je xv kY HTB HT1' HER3 HBW2;obtain⟨e0,e1,e2,e3,e4,e5,e6,e7,e8,e9,uW,uE,vS,vH⟩:=yG (U uK);have HE3:=Z ((U kC).alloc (Obj.cells #[H 3,H 0,H 0,H 0,H 0,H 0,H 0,yj 0,yk ⟨#[]⟩,H next,H o.id,H q,H o.ticks,H 0] 37));have hs5:V2.heap.size+1<=(V2.alloc (Obj.cells #[H 3,H 0,H 0,H 0,H 0,H 0,H 0,yj 0,yk ⟨#[]⟩,H next,H o.id,H q,H o.ticks,H 0] 37)).heap.size:=Nat.le_of_eq (zf _ _).symm;have uc:=mn V2 (Obj.cells #[H 3,H 0,H 0,H 0,H 0,H 0,H 0,yj 0,yk ⟨#[]⟩,H next,H o.id,H q,H o.ticks,H 0] 37);have qA:Hid (∀j u,[H 3,H 0,H 0,H 0,H 0,H 0,H 0,yj 0,yk ⟨#[]⟩,H next,H o.id,H q,H o.ticks,H 0][j]? = some u->(V2.alloc (Obj.cells #[H 3,H 0,H 0,H 0,H 0,H 0,H 0,yj 0,yk ⟨#[]⟩,H next,H o.id,H q,H o.ticks,H 0] 37)).cell? (((J V2.heap.size 0):Addr).add j)=some u):=fun j u hu=>cellsQ V2 [H 3,H 0,H 0,H 0,H 0,H 0,H 0,yj 0,yk ⟨#[]⟩,H next,H o.id,H q,H o.ticks,H 0] 37 j u hu;have kD:=Z (zt (U ka) uc);have aS:=Z (zc (U qM) uc (by omega));have qL:=Z (zl (U xU) uc (by omega));have jt:=Z (zl (U xT) uc (by omega));have ui:=Z (mr (U xF) uc);have HEBv:Hid (∀g,u7.ownBlock=some g->w.heap.size+1+1<=g):=fun g X=>(U HEB g X).1;clear uc ka qM xU xT xF HEB;go_wp2_with (at_builtin;go_must (refine wpList_append_own _ rfl _ _ 28 rfl (w.heap.size+1+1) 37 i0 _ 14 120 Tryz.underlying28 vk uI uG uZ rfl (by decide) u7 ts.length (ts.flatMap Ev.vs) rfl (U HE3) (J V2.heap.size 0) 1 1 [H 3,H 0,H 0,H 0,H 0,H 0,H 0,yj 0,yk ⟨#[]⟩,H next,H o.id,H q,H o.ticks,H 0] rfl rfl (U qA) (by simp[Value.oneCell']) (by unfold maxLen;omega) (by omega) (by omega) ?_);intro v5 w5 vh vI _;have pw:=Z vh;have xT:=Z vI;clear vh vI)
   have HRO:=Z ((U kD).kept (U xT) (gu (U kD) (U HE3) (by decide)));have HNS:Hid (∀b,b<w.heap.size+1+1->some b≠u7.ownBlock):=fun b E e=>by have:=U HEBv b e.symm;omega
   have cx:=Z (zr (U aS) (U xT) (by omega) (U HNS _ (by omega)));have HT5:=Z (zK (U qL) (U xT) (by omega) (U HNS _ (by omega)));have jU:=Z (zK (U jt) (U xT) (by omega) (U HNS _ (by omega)));have vZ:=Z ((U ui).grown (U xT) (U ui).size (fun k hk=>by have:=U HEBv k hk;omega));have hs6:=(U xT).size
   have qz:Hid (ERow w5 (w.heap.size+1+1) v5 (ts ++ [trE next o.id q o.ticks])):=by
    show w5.ownsRow _ _ _ _ (ts ++ [trE next o.id q o.ticks]).length _;rw[yQ,List.flatMap_append];have:=U pw;simpa[Ev.vs,trE,zCm] using this
   obtain⟨x0,x1,x2,x3,x4,x5⟩:=yD (U cx)
   try simp only[Exit.inBlock,Exit.then]
   refine U xE _ _ ?_;clear xE HE3 qA kD aS qL jt ui xT pw e0 e1 e2 e3 e4 e5 e6 e7 e8 e9 uW uE vS vH;have pm:=(U HMI2).good;have kO:=pm.len;go_wp2_with fail;refine(lU v2 (dR l' i o q) ⟨next,F,tt,left-q,O,cg⟩ w5 (zI (U HRO) (by omega)) pm.rise (by omega) (U HS)).mono ?_;rintro e w6 ⟨k6,rfl,hnx6,jm⟩
   have HN:Hid (MaI ⟨ck,F,ct,O,cq,ci,cp,cg⟩ next w (.slice a l.length cap) l tt cs (2*(dR l' i o q).length+(if 0<left-q then 1 else 0)) v2 v5 (H k6) w6):=
    ⟨dR l' i o q,left-q,ts ++ [trE next o.id q o.ticks],k6,rfl,.inr (zU (zt (U HRO) jm) (by omega)),ff (U qz) jm,hnx6,U HMI2,zc (U cx) jm (by omega),zl (U HT5) jm (by omega),zl (U jU) jm (by omega),(U vZ).trans (jm.mono (U vZ).size),by have:=jm.size;omega,Nat.le_refl _⟩
   clear hnx6 jm;go_wp2_with fail
   go_roundg (2*(dR l' i o q).length+(if 0<left-q then 1 else 0))
   case measure=>rw[if_pos h0] at hme;omega
   case rel=>exact U HN
def EN (S:Nat)(vb bv cv ta tw u5:Value):Nat->Value->Prop
 | 0,v=>v=I S 1
 | 1,v=>v=vb
 | 2,v=>v=bv
 | 3,v=>v=cv
 | 4,v=>v=ta
 | 6,v=>v=u5
 | 7,v=>∃lv ev,u5 = .tuple #[lv,tw,ev]/\v=lv
 | 8,v=>v=tw
 | 9,v=>∃lv ev,u5 = .tuple #[lv,tw,ev]/\v=ev
 | 11,v=>∃lv ev,u5 = .tuple #[lv,tw,ev]/\v=lv
 | 13,v=>∃lv ev,u5 = .tuple #[lv,tw,ev]/\v=ev
 | _,_=>True
theorem en_any {S:Nat}{vb bv cv ta tw u u':Value}{j:Nat}{v:Value}(h:EN S vb bv cv ta tw u j v)(h6:j≠6)(h7:j≠7)(h9:j≠9)(jc:j≠11)(pg:j≠13):EN S vb bv cv ta tw u' j v:=by
 match j with
 | 0|1|2|3|4|8=>exact h
 | 5|10|12=>trivial
 | 6=>omega
 | 7=>omega
 | 9=>omega
 | 11=>omega
 | 13=>omega
 | j+14=>trivial
def LVok (W:World)(lv:Value)(hR:List Od):Prop:=RdR Od.vs 6 W lv hR/\SlOk lv
def Dst (hR:List Od)(u v:Value):Prop:=∀lv tw ev c8,u = .tuple #[lv,tw,ev]->v=I c8 0->hR ≠ []->lv.ownBlock≠some c8
structure RN (S:Nat) (vb bv cv ta tw:Value) (twl:List Value) (hR:List Od) (n2:Nat) (base:World) (x:List Bool) (f:Nat->Value) (W:World):Prop where
 bel:Below base.heap.size base W
 e:∀j,x[j]? = some true->EN S vb bv cv ta tw (f 5) j (f j)
 m5:x[5]? = some true->∃lv ev,f 5 = .tuple #[lv,tw,ev]/\LVok W lv hR/\∃a c,ev = .slice a n2 c
 m10:x[10]? = some true->∃c8,f 10 = .pointer (some ⟨c8,0,none⟩)/\base.heap.size<=c8/\c8<W.heap.size/\W.there c8 0 6/\(x[12]? = some true->W.rangeAt c8 0 twl)
 ap:x[5]? = some true->x[10]? = some true->Dst hR (f 5) (f 10)
def RNA (cs:(Nat->Value)->Act)(S:Nat)(vb bv cv ta tw:Value)(bW:List Value)(hR:List Od)(n2:Nat)(base:World)(x:List Bool)(zb:Act)(W:World):Prop:=∃f,zb=cs f/\RN S vb bv cv ta tw bW hR n2 base x f W
theorem tup3 {a b c a' b' c':Value}(h:Value.tuple #[a,b,c] = .tuple #[a',b',c']):a=a'/\b=b'/\c=c':=by
 have:=congrArg Array.toList (Value.tuple.inj h);simpa using this
theorem rd_block {W:World}{v:Value}{hR:List Od}(h:RdR Od.vs 6 W v hR)(xr:hR ≠ []):∃b,v.ownBlock=some b/\b<W.heap.size:=by
 obtain⟨a,c,rfl,_,hc⟩:=h;obtain⟨b,off,rfl,E,_⟩:=hc xr;exact⟨b,rfl,E⟩
theorem rd_setC {W:World}{v:Value}{hR:List Od}{c8 o:Nat}{vs:List Value}(h:RdR Od.vs 6 W v hR)(xr:hR ≠ []->v.ownBlock≠some c8):RdR Od.vs 6 (W.setCells c8 o vs) v hR:=by
 obtain⟨a,c,rfl,D,hc⟩:=h;refine⟨a,c,rfl,D,fun hl=>?_⟩;obtain⟨b,off,rfl,E,hr⟩:=hc hl;have hbc:c8≠b:=fun e=>xr hl (by rw[e];rfl);exact⟨b,off,rfl,by rw[fO];exact E,fun i c hi=>lK (hr i c hi) hbc⟩
section
variable {S:Nat} {vb bv cv ta tw:Value} {bW:List Value} {hR:List Od} {n2:Nat} {base W W':World} {x:List Bool} {f:Nat->Value}
theorem rn_grow (h:RN S vb bv cv ta tw bW hR n2 base x f W)(E:yn W W'):RN S vb bv cv ta tw bW hR n2 base x f W':=
 ⟨h.bel.trans (E.mono h.bel.size),h.e,fun h5=>by
  obtain⟨lv,ev,D,Y,h3⟩:=h.m5 h5;exact⟨lv,ev,D,⟨zi Y.1 E ya,Y.2⟩,h3⟩,fun qi=>by
  obtain⟨c8,D,Y,h3,h4,h5⟩:=h.m10 qi;exact⟨c8,D,Y,yK h3 E.size,zl h4 E h3,fun vT=>zc (h5 vT) E h3⟩,h.ap⟩
theorem gj (h:RN S vb bv cv ta tw bW hR n2 base x f W)(i:Nat)(u:Value)(h5:i≠5)(qi:i≠10)(vT:i≠12)(hu:EN S vb bv cv ta tw (f 5) i u):RN S vb bv cv ta tw bW hR n2 base (x.set i true) (upd f i u) W:=by
 refine⟨h.bel,fun j hj=>?_,?_,?_,?_⟩
 ·rw[zk f u (show 5≠i from fun e=>h5 e.symm)]
  by_cases hji:j=i
  ·subst hji;rw[zo];exact hu
  ·rw[zk _ _ hji];rw[gq (fun e=>hji e.symm)] at hj;exact h.e j hj
 ·rw[gq h5,zk f u (show 5≠i from fun e=>h5 e.symm)];exact h.m5
 ·rw[gq qi,gq vT,zk f u (show 10≠i from fun e=>qi e.symm)];exact h.m10
 ·rw[gq h5,gq qi,zk f u (show 5≠i from fun e=>h5 e.symm),zk f u (show 10≠i from fun e=>qi e.symm)];exact h.ap
theorem rn_5 (h:RN S vb bv cv ta tw bW hR n2 base x f W)(E:yn W W'){lv ev:Value}(hl:LVok W' lv hR)(he:∃a c,ev = .slice a n2 c)(vN:∀j,(j=6\/j=7\/j=9\/j=11\/j=13)->x[j]? ≠ some true)
  (hap:∀c8,base.heap.size<=c8->c8<W.heap.size->hR ≠ []->lv.ownBlock≠some c8):RN S vb bv cv ta tw bW hR n2 base (x.set 5 true) (upd f 5 (.tuple #[lv,tw,ev])) W':=by
 have X:=rn_grow h E;refine⟨X.bel,fun j hj=>?_,fun _=>⟨lv,ev,zo _ _ _,hl,he⟩,?_,?_⟩
 ·by_cases hji:j=5
  ·subst hji;trivial
  ·rw[gq (fun e=>hji e.symm)] at hj;rw[zk _ _ hji];refine en_any (X.e j hj) ?_ ?_ ?_ ?_ ?_ <;> intro e <;> exact vN j (by omega) hj
 ·rw[gq (by omega),gq (by omega),zk _ _ (by omega)];exact X.m10
 ·intro _ qi;rw[gq (by omega)] at qi;rw[zo,zk _ _ (by omega)];obtain⟨c8,D,Y,h3,_⟩:=h.m10 qi;intro lv' tw' ev' c8' e1 e2 xr;rw[D] at e2;simp only[Value.pointer.injEq,Option.some.injEq,Addr.mk.injEq,and_true] at e2;obtain rfl:c8=c8':=e2;have e1:lv=lv':=(tup3 e1).1;rw[<- e1];exact hap c8 Y h3 xr
theorem rn_10 (h:RN S vb bv cv ta tw bW hR n2 base x f W)(vT:x[12]? ≠ some true){o:Obj}(ht:(W.alloc o).there W.heap.size 0 6):RN S vb bv cv ta tw bW hR n2 base (x.set 10 true) (upd f 10 (I W.heap.size 0)) (W.alloc o):=by
 have X:=rn_grow h ((Below.refl W.heap.size W).alloc ya o);refine⟨X.bel,fun j hj=>?_,?_,fun _=>⟨W.heap.size,zo _ _ _,h.bel.size,by rw[zf];omega,ht,fun e=>absurd (by rwa[gq (by omega)] at e) vT⟩,?_⟩
 ·rw[zk _ _ (by omega)]
  by_cases hji:j=10
  ·subst hji;trivial
  ·rw[gq (fun e=>hji e.symm)] at hj;rw[zk _ _ hji];exact X.e j hj
 ·rw[gq (by omega),zk _ _ (by omega)];exact X.m5
 ·intro h5 _;rw[gq (by omega)] at h5;rw[zo,zk _ _ (by omega)];obtain⟨lv,ev,D,Y,_⟩:=h.m5 h5;intro lv' tw' ev' c8' e1 e2 xr e3;rw[D] at e1;simp only[Value.pointer.injEq,Option.some.injEq,Addr.mk.injEq,and_true] at e2;have e1:lv=lv':=(tup3 e1).1;obtain⟨b,uw,xO⟩:=rd_block Y.1 xr;rw[<- e1,uw] at e3;simp only[Option.some.injEq] at e3;omega
theorem rn_12 (h:RN S vb bv cv ta tw bW hR n2 base x f W)(h5:x[5]? = some true)(qi:x[10]? = some true){c8:Nat}(hc:f 10=I c8 0)(hl:bW.length=6)(hx:x[12]? = some false):RN S vb bv cv ta tw bW hR n2 base (x.set 12 true) f (W.setCells c8 0 bW):=by
 obtain⟨c',D,Y,h3,h4,_⟩:=h.m10 qi;rw[hc] at D;simp only[Value.pointer.injEq,Option.some.injEq,Addr.mk.injEq,and_true] at D;subst D;obtain⟨lv,ev,e1,e2,e3⟩:=h.m5 h5;have hd:=h.ap h5 qi lv tw ev c8 e1 hc;refine⟨zh _ Y _ _ _ h.bel,fun j hj=>?_,fun _=>⟨lv,ev,e1,⟨rd_setC e2.1 hd,e2.2⟩,e3⟩,fun _=>⟨c8,hc,Y,by rw[fO];exact h3,xc h4 _ _ _,fun _=>yY W c8 0 _ (fun j hj=>h4 j (by omega))⟩,?_⟩
 ·by_cases hji:j=12
  ·subst hji;trivial
  ·rw[gq (fun e=>hji e.symm)] at hj;exact h.e j hj
 ·intro _ _;exact h.ap h5 qi
end
structure R9 (C:Nat->Value->Prop) (B0:World) (hR:List Od) (t:Od) (x:List Bool) (f:Nat->Value) (W:World):Prop where
 bel:Below B0.heap.size B0 W
 c:∀j,x[j]? = some true->C j (f j)
 m13:x[13]? = some true->x[15]? = some false->ORow W B0.heap.size (f 13) []
 m15:x[15]? = some true->x[18]? = some false->ORow W B0.heap.size (f 15) hR
 m17:x[17]? = some true->x[18]? = some false->∃b,f 17 = .slice (some ⟨b,0,none⟩) 1 1/\b<W.heap.size/\B0.heap.size<=b/\W.rangeAt b 0 t.vs/\(x[13]? = some true->x[15]? = some false->(f 13).ownBlock≠some b)
 m18:x[18]? = some true->ORow W B0.heap.size (f 18) (hR ++ [t])
def R9A (cs:(Nat->Value)->Act)(C:Nat->Value->Prop)(B0:World)(hR:List Od)(t:Od)(x:List Bool)(zb:Act)(W:World):Prop:=∃f,zb=cs f/\R9 C B0 hR t x f W
section
variable {C:Nat->Value->Prop} {B0 W W':World} {hR:List Od} {t:Od} {x:List Bool} {f:Nat->Value}
theorem r9_grow (h:R9 C B0 hR t x f W)(E:yn W W'):R9 C B0 hR t x f W':=
 ⟨h.bel.trans (E.mono h.bel.size),h.c,fun a b=>zt (h.m13 a b) E,fun a b=>zt (h.m15 a b) E,fun a b=>by
  obtain⟨b',D,Y,h3,h4,h5⟩:=h.m17 a b;exact⟨b',D,yK Y E.size,h3,zc h4 E Y,h5⟩,fun a=>zt (h.m18 a) E⟩
theorem eJ (h:R9 C B0 hR t x f W)(i:Nat)(v:Value)(hv:C i v)(pg:i≠13)(jd:i≠15)(jC:i≠17)(bN:i≠18):R9 C B0 hR t (x.set i true) (upd f i v) W:=by
 refine⟨h.bel,zC h.c hv,?_,?_,?_,?_⟩ <;> simp only[gq pg,gq jd,gq jC,gq bN,zk f v pg.symm,zk f v jd.symm,zk f v jC.symm,zk f v bN.symm]
 ·exact h.m13
 ·exact h.m15
 ·exact h.m17
 ·exact h.m18
theorem r9_13 (h:R9 C B0 hR t x f W)(pg:x[13]? = some false)(hc:∀v,C 13 v):R9 C B0 hR t (x.set 13 true) (upd f 13 (.slice (some (J W.heap.size 0)) 0 0)) (W.alloc (mq #[] 65)):=by
 have X:=r9_grow h ((Below.refl W.heap.size W).alloc ya (mq #[] 65));refine⟨X.bel,zC X.c (hc _),?_,?_,?_,?_⟩
 ·intro _ _;rw[zo];exact World.ownsRow_made W #[] 0 h.bel.size (by decide) rfl
 ·rw[gq (by decide),gq (by decide),zk _ _ (by decide)];exact X.m15
 ·intro jC bN;rw[gq (by decide)] at jC bN;obtain⟨b,D,Y,h3,h4,h5⟩:=X.m17 jC bN;obtain⟨b',e1,e2,_⟩:=h.m17 jC bN;rw[D] at e1;simp only[Value.slice.injEq,Option.some.injEq,Addr.mk.injEq,and_true] at e1;subst e1;refine⟨b,by rw[zk _ _ (by decide)];exact D,Y,h3,h4,fun _ _ e=>?_⟩;rw[zo] at e;simp[Value.ownBlock] at e;omega
 ·rw[gq (by decide),zk _ _ (by decide)];exact X.m18
theorem r9_15 (h:R9 C B0 hR t x f W)(pg:x[13]? = some true)(jd:x[15]? = some false)(bN:x[18]? = some false)(hc:∀v,C 15 v){v':Value}(Q:ORow W' B0.heap.size v' hR)(X:W.grownBy W' (f 13).ownBlock):R9 C B0 hR t (x.set 15 true) (upd f 15 v') W':=by
 refine⟨h.bel.grown X h.bel.size (fun k hk=>((h.m13 pg jd).lt k hk).1),zC h.c (hc _),?_,?_,?_,?_⟩
 ·intro _ e;rw[gqs jd] at e;cases e
 ·intro _ _;rw[zo];exact Q
 ·intro jC _;rw[gq (by decide)] at jC;obtain⟨b,D,Y,h3,h4,h5⟩:=h.m17 jC bN;refine⟨b,by rw[zk _ _ (by decide)];exact D,yK Y X.size,h3,zr h4 X Y (fun e=>h5 pg jd e.symm),fun _ e=>?_⟩;rw[gqs jd] at e;cases e
 ·intro e;rw[gq (by decide),bN] at e;cases e
theorem r9_17 (h:R9 C B0 hR t x f W)(jC:x[17]? = some false)(bN:x[18]? = some false)(hc:∀v,C 17 v):R9 C B0 hR t (x.set 17 true) (upd f 17 (.slice (some (J W.heap.size 0)) 1 1)) (W.alloc (Obj.cells t.vs.toArray 65)):=by
 have X:=r9_grow h ((Below.refl W.heap.size W).alloc ya (Obj.cells t.vs.toArray 65));refine⟨X.bel,zC X.c (hc _),?_,?_,?_,?_⟩
 ·rw[gq (by decide),gq (by decide),zk _ _ (by decide)];exact X.m13
 ·rw[gq (by decide),gq (by decide),zk _ _ (by decide)];exact X.m15
 ·intro _ _;refine⟨W.heap.size,zo _ _ _,by rw[zf];omega,h.bel.size,zm W t.vs _,fun pg jd e=>?_⟩;rw[gq (by decide)] at pg jd;rw[zk _ _ (by decide)] at e;have:=((h.m13 pg jd).lt _ e).2;omega
 ·rw[gq (by decide),zk _ _ (by decide)];exact X.m18
theorem r9_18 (h:R9 C B0 hR t x f W)(jd:x[15]? = some true)(bN:x[18]? = some false)(hc:∀v,C 18 v){v':Value}(Q:ORow W' B0.heap.size v' (hR ++ [t]))(X:W.grownBy W' (f 15).ownBlock):R9 C B0 hR t (x.set 18 true) (upd f 18 v') W':=by
 refine⟨h.bel.grown X h.bel.size (fun k hk=>((h.m15 jd bN).lt k hk).1),zC h.c (hc _),?_,?_,?_,?_⟩
 ·intro _ e;rw[gq (by decide)] at e;rw[e] at jd;cases jd
 ·intro _ e;rw[gqs bN] at e;cases e
 ·intro _ e;rw[gqs bN] at e;cases e
 ·intro _;rw[zo];exact Q
end
def C9 (S c8:Nat)(ty left:Int)(lv:Value)(n1:Nat)(ta:Value)(N:Int):Nat->Value->Prop
 | 0,v=>v=I (S+1) 2
 | 1,v=>v=H ty
 | 2,v=>v = .bool true
 | 3,v=>v = .bool true
 | 4,v=>v=I c8 3
 | 5,v=>v=H left
 | 6,v=>v = .bool true
 | 7,v=>v = .bool true
 | 8,v=>v = .bool true
 | 9,v=>v=lv
 | 10,v=>v=H n1
 | 11,v=>v = .bool false
 | 12,v=>v = .bool false
 | 14,v=>v=lv
 | 16,v=>v=ta
 | 19,v=>v=H N
 | 20,v=>v = .bool (decide (8<N))
 | 21,v=>v = .bool (decide (8<N))
 | 22,v=>v = .bool (decide (8<N))
 | _,_=>True
theorem l04New_any (next:Int)(vb:Value)(l:List Od)(c:Cm)(w:World)(hr:RdR Od.vs 6 w vb l)(hs:SlOk vb)(X:GoodL l)(uX:∀x∈l,x.side=1\/x.side=2)(ht:c.g.size<=maxLen) :
  Calls Tryz.prog 68 #[.agg #[H next,vb],cmV c] w fun e w'=>e = .returned (H (newR next l c))/\yn w w':=by
 have HR:=Z hr;have HG:=Z X;have jg:=Z hs;have cy:=Z uX;have kY:=Z (fun W=>l03Tag_any c.g W ht);have HZR:=Z (fun W=>l04Zero_any c.p W);have uQ:=Z (fun W=>l01Ticks_any c.p W);obtain⟨a,cap,rfl,xC,hc⟩:=hr;obtain⟨kk,s,ty,li,qt,ii,pr,tg⟩:=c;unfold cmV;simp only at kY HZR uQ |-;clear hc X hs uX xC ht;have xJ:=zf w (mq #[H next,.slice a l.length cap] 27);have ug:((w.alloc (mq #[H next,.slice a l.length cap] 27)).alloc (mq (yx kk s ty li qt ii pr tg).toArray 33)).heap.size=w.heap.size+1+1:=by rw[zf,xJ]
 have r1:=zm w [H next,.slice a l.length cap] 27;have r2:=zm (w.alloc (mq #[H next,.slice a l.length cap] 27)) (yx kk s ty li qt ii pr tg) 33;rw[xJ] at r2;have qH:Below (w.heap.size+1) (w.alloc (mq #[H next,.slice a l.length cap] 27)) ((w.alloc (mq #[H next,.slice a l.length cap] 27)).alloc (mq (yx kk s ty li qt ii pr tg).toArray 33)):=(Below.refl _ _).alloc (by rw[xJ];omega) _;have xv:Hid (yn w ((w.alloc (mq #[H next,.slice a l.length cap] 27)).alloc (mq (yx kk s ty li qt ii pr tg).toArray 33))):=(mn _ _).alloc (by rw[xJ];omega) _;have HX:Hid (_/\_):=⟨zc r1 qH (by omega),r2⟩;have uy:Hid (w.heap.size+1<((w.alloc (mq #[H next,.slice a l.length cap] 27)).alloc (mq (yx kk s ty li qt ii pr tg).toArray 33)).heap.size):=by show _ < _;omega
 clear xJ ug r1 r2 qH;go_enter Tryz.func68,Tryz.ntmps68;refine ms fun mR xE=>?_;go_wp2_with fail;refine U xE _ _ ?_;clear xE;generalize ((w.alloc (mq #[H next,.slice a l.length cap] 27)).alloc (mq (yx kk s ty li qt ii pr tg).toArray 33))=X2 at xv HX uy |-;have HX:Hid (X2.rangeAt w.heap.size 0 [H next,.slice a l.length cap]/\X2.rangeAt (w.heap.size+1) 0 (yx kk s ty li qt ii pr tg)):=U HX;have o1:X2.cell? (J (w.heap.size+1) 1)=some (H s):=(U HX).2 1 _ rfl;have o2:X2.cell? (J (w.heap.size+1) 2)=some (H ty):=(U HX).2 2 _ rfl;have o3:X2.cell? (J (w.heap.size+1) 3)=some (H li):=(U HX).2 3 _ rfl;have o4:X2.cell? (J (w.heap.size+1) 4)=some (H qt):=(U HX).2 4 _ rfl;have o6:X2.cell? (J (w.heap.size+1) 6)=some (yj pr):=(U HX).2 6 _ rfl;have o7:X2.cell? (J (w.heap.size+1) 7)=some (yk tg):=(U HX).2 7 _ rfl;refine ms fun mR xE=>?_;go_wp2_with (first|(go_at_call 71;refine(U uQ _).mono ?_;rintro e w' ⟨rfl,uq⟩;rw[uq];clear uq w')|(go_at_call 31;refine(fq _ _ _ _).mono ?_;rintro e w' ⟨rfl,uq⟩;rw[uq];clear uq w')|(go_at_call 42;refine(gG _ _).mono ?_;rintro e w' ⟨rfl,uq⟩;rw[uq];clear uq w')|(go_at_call 118;refine(U HZR _).mono ?_;rintro e w' ⟨rfl,uq⟩;rw[uq];clear uq w')|(go_at_call 65;refine(U kY _).mono ?_;rintro e w' ⟨rfl,uq⟩;rw[uq];clear uq w'));refine U xE _ _ ?_;clear xE;refine ms fun mR xE=>?_;cases bs:betB s 1 2;have HK:Hid (newR next l ⟨kk,s,ty,li,qt,ii,pr,tg⟩=3):=by show _ = _;simp[newR,bs]
 rotate_left;cases bt:betB ty 1 5;have HK:Hid (newR next l ⟨kk,s,ty,li,qt,ii,pr,tg⟩=4):=by show _ = _;simp[newR,bs,bt]
 rotate_left
 have HT:Hid (lifW ⟨kk,s,ty,li,qt,ii,pr,tg⟩=false->prcB ⟨kk,s,ty,li,qt,ii,pr,tg⟩=true->betB qt 1 1000000=true->tagB tg=true->∀(u5 u6 u10 u11 u12 u13 u14 u15 u16 u17 u18 u19 u20 u21 u22 u23 u24 u25 u26 u27 u28 u29 u30 u31 u32 u33 u34 u35 u36 u37 u38 u39 u40 u41 u42 u43 u44 u45 u46 u47 u48 u49 u50 u51 u52 u53 u54 u55 u56 u57 u58 u59 u60 u61 u62 u63 u64 u65 u66 u67 u68 u69 u70:Value),mR { tmps:=#[.agg #[H next,.slice a l.length cap],.agg (yx kk s ty li qt ii pr tg).toArray,I w.heap.size 0,I (w.heap.size+1) 0,H 0,u5,u6,M,M,M,u10,u11,u12,u13,u14,u15,u16,u17,u18,u19,u20,u21,u22,u23,u24,u25,u26,u27,u28,u29,u30,u31,u32,u33,u34,u35,u36,u37,u38,u39,u40,u41,u42,u43,u44,u45,u46,u47,u48,u49,u50,u51,u52,u53,u54,u55,u56,u57,u58,u59,u60,u61,u62,u63,u64,u65,u66,u67,u68,u69,u70,M,M,M,M,M,M,M,M,M,M,M,M,M,M,M,M,M,M,M,M,M,M,M,M,M,M,M,M,M,M,M,M,M,M,M,M,M,M,M,M,M,M,M,M,M,M,M,M,M,M,M,M,M,M,M],defers:=[] } X2):=by
  intro hlif hprc hqty htag u5 u6 u10 u11 u12 u13 u14 u15 u16 u17 u18 u19 u20 u21 u22 u23 u24 u25 u26 u27 u28 u29 u30 u31 u32 u33 u34 u35 u36 u37 u38 u39 u40 u41 u42 u43 u44 u45 u46 u47 u48 u49 u50 u51 u52 u53 u54 u55 u56 u57 u58 u59 u60 u61 u62 u63 u64 u65 u66 u67 u68 u69 u70;refine U xE _ _ ?_;clear xE o1 o2 o3 o4 o6 o7;have hside:=side_of bs;have hqq:1<=qt/\qt<=1000000:=by simpa[betB] using hqty
  have oX:Hid (newR next l ⟨kk,s,ty,li,qt,ii,pr,tg⟩=matS next ⟨kk,s,ty,li,qt,ii,pr,tg⟩ (matL ⟨kk,s,ty,li,qt,ii,pr,tg⟩ next 21 l qt [])):=by
   show _ = _;rw[matS_eq (U HG) (U cy) bs hprc hqty];simp[newR,bs,bt,hlif,hprc,hqty,htag]
  have dv:=Z (fun W hW=>l04Match_any (.slice a l.length cap) l ⟨kk,s,ty,li,qt,ii,pr,tg⟩ next W hW (U HG) hside hprc (by show 0<=qt;omega) hqq.2);have kW:=Z (iI (c:=⟨kk,s,ty,li,qt,ii,pr,tg⟩) (id:=next) 21 l qt [] (U HG) (by omega) hqq.2);simp only at dv kW;generalize matL ⟨kk,s,ty,li,qt,ii,pr,tg⟩ next 21 l qt []=cs at oX dv kW;generalize newR next l ⟨kk,s,ty,li,qt,ii,pr,tg⟩=res at oX |-;have HTKR:=Z (fun W=>lQ next a l.length cap ⟨kk,s,ty,li,qt,ii,pr,tg⟩ W);unfold cmV at HTKR;simp only at HTKR
  have oW:Hid (matS next ⟨kk,s,ty,li,qt,ii,pr,tg⟩ cs=if ty=5/\0<cs.2.2.length then 11 else if ty=4/\0<cs.2.1 then 12 else if next=1000000 then 13
   else if dT ty=true then(if 0<cs.2.1 then(if cs.1.length=20 then 13 else if 8<nlev (cs.1 ++ [⟨next,s,tkS pr,cs.2.1,li,tg⟩]) then 13 else 0) else 0) else 0):=rfl
  have oX:Hid (res = _):=(U oX).trans (U oW);clear oW hlif hprc hqty htag hqq;generalize tkS pr=tt at dv HTKR oX;obtain⟨hR,left,ts⟩:=cs;simp only at dv oX kW;refine ms fun mR xE=>?_;refine zu (RNA (fun f=>{ tmps:=#[.agg #[H next,.slice a l.length cap],.agg (yx kk s ty li qt ii pr tg).toArray,I w.heap.size 0,I (w.heap.size+1) 0,H 0,u5,u6,f 11,f 10,f 13,u10,u11,u12,u13,u14,u15,u16,u17,u18,u19,u20,u21,u22,u23,u24,u25,u26,u27,u28,u29,u30,u31,u32,u33,u34,u35,u36,u37,u38,u39,u40,u41,u42,u43,u44,u45,u46,u47,u48,u49,u50,u51,u52,u53,u54,u55,u56,u57,u58,u59,u60,u61,u62,u63,u64,u65,u66,u67,u68,u69,u70,f 6,f 0,f 1,f 2,f 3,f 4,f 5,f 7,f 8,f 9,M,M,M,M,M,M,M,M,M,M,M,M,M,M,M,M,M,M,M,M,M,M,M,M,M,M,M,M,M,M,M,M,M,M,M,M,M,M,M,M,M,M,M,M,M],defers:=[] }) w.heap.size (.slice a l.length cap) (.agg #[H next,.slice a l.length cap]) (.agg (yx kk s ty li qt ii pr tg).toArray) (.agg (yw next s tt qt li tg).toArray) (.agg (yw next s tt left li tg).toArray) (yw next s tt left li tg) hR ts.length X2) (by kernel_rfl) ?_ ?_ ?_
  ·exact⟨fun j=>M,rfl,⟨⟨rfl,rfl,rfl,Nat.le_refl _,fun _ _=>rfl⟩,fun j hj=>by rw[yJ] at hj;split at hj <;> simp at hj,by simp,by simp,by simp⟩⟩
  ·rintro x zb V ⟨f,rfl,L⟩ hx xS;have xq:=fP xS hx (by kernel_rfl);obtain⟨lv,ev,e5,hlv,ae,ce,hev⟩:=L.m5 (xq 5 (by simp));obtain⟨c8,uW,oC,qU,-,cM⟩:=L.m10 (xq 10 (by simp));obtain⟨lv',ev',uE,e11'⟩:=L.e 11 (xq 11 (by simp));obtain⟨lv'',ev'',vH,e13'⟩:=L.e 13 (xq 13 (by simp));have HC8:=Z (cM (xq 12 (by simp)));rw[e5] at uE vH;have q1:lv=lv':=(tup3 uE).1;have q2:ev=ev'':=(tup3 vH).2.2;rw[<- q1] at e11';rw[<- q2,hev] at e13';have HLV:=Z hlv;have xK:=Z ((U xv).trans (L.bel.mono (U xv).size));have HXV:Hid (V.rangeAt w.heap.size 0 [H next,.slice a l.length cap]/\V.rangeAt (w.heap.size+1) 0 (yx kk s ty li qt ii pr tg)):=⟨zc (U HX).1 L.bel (by have:=U uy;omega),zc (U HX).2 L.bel (U uy)⟩;have hVS:w.heap.size+1<V.heap.size:=yK (U uy) L.bel.size;refine U xE _ _ ?_;clear xE;simp only[uW,e11',e13'];generalize f 6=u71,f 0=u72,f 1=u73,f 2=u74,f 3=u75,f 4=u76,f 5=u77,f 7=u78,f 8=u79,f 9=u80;clear L xq e5 uW uE vH e11' e13' q1 q2 cM xS hx hlv hev dv HTKR HX xv uy;obtain⟨⟨al,cal,qS,hll,qw⟩,hsl⟩:=U HLV;have HRL:Hid (RdR Od.vs 6 V (.slice al hR.length cal) hR):=by rw[<- qS];exact(U HLV).1
   have HSV:Hid (SlOk (.slice al hR.length cal)):=by rw[<- qS];exact hsl
   subst qS;clear qw hsl hll HLV;have k0:V.cell? (J w.heap.size 0)=some (H next):=(U HXV).1 0 _ rfl;have o2:V.cell? (J (w.heap.size+1) 2)=some (H ty):=(U HXV).2 2 _ rfl;have c3:V.cell? (J c8 3)=some (H left):=U HC8 3 _ rfl;have h20:hR.length<=20:=(U kW).1.len;refine ms fun mR xE=>?_
   have un:Hid (¬ (ty=5/\0<ts.length)->¬ (ty=4/\0<left)->next≠1000000->∀(u5 u6 u10 u11 u12 u13 u14 u15 u16 u17 u18 u19 u20 u21 u22 u23 u24 u25 u26 u27 u28 u29 u30 u31 u32 u33 u34 u35 u36 u37 u38 u39 u40 u41 u42 u43 u44 u45 u46 u47 u48 u49 u50 u51 u52 u53 u54 u55 u56 u57 u58 u59 u60 u61 u62 u63 u64 u65 u66 u67 u68 u69 u70 u71 u72 u73 u74 u75 u76 u77 u78 u79 u80 u81 u82 u83 u84 u85 u86 u87 u88 u89 u90 u91 u92 u93 u94 u95 u96 u97 u98 u99 u100 u101 u102:Value),mR { tmps:=#[.agg #[H next,.slice a l.length cap],.agg (yx kk s ty li qt ii pr tg).toArray,I w.heap.size 0,I (w.heap.size+1) 0,H 0,u5,u6,.slice al hR.length cal,I c8 0,.slice ae ts.length ce,u10,u11,u12,u13,u14,u15,u16,u17,u18,u19,u20,u21,u22,u23,u24,u25,u26,u27,u28,u29,u30,u31,u32,u33,u34,u35,u36,u37,u38,u39,u40,u41,u42,u43,u44,u45,u46,u47,u48,u49,u50,u51,u52,u53,u54,u55,u56,u57,u58,u59,u60,u61,u62,u63,u64,u65,u66,u67,u68,u69,u70,u71,u72,u73,u74,u75,u76,u77,u78,u79,u80,u81,u82,u83,u84,u85,u86,u87,u88,u89,u90,u91,u92,u93,u94,u95,u96,u97,u98,u99,u100,u101,u102,M,M,M,M,M,M,M,M,M,M,M,M,M,M,M,M,M,M,M,M,M,M,M],defers:=[] } V):=by
    intro g5 g4 gn u5 u6 u10 u11 u12 u13 u14 u15 u16 u17 u18 u19 u20 u21 u22 u23 u24 u25 u26 u27 u28 u29 u30 u31 u32 u33 u34 u35 u36 u37 u38 u39 u40 u41 u42 u43 u44 u45 u46 u47 u48 u49 u50 u51 u52 u53 u54 u55 u56 u57 u58 u59 u60 u61 u62 u63 u64 u65 u66 u67 u68 u69 u70 u71 u72 u73 u74 u75 u76 u77 u78 u79 u80 u81 u82 u83 u84 u85 u86 u87 u88 u89 u90 u91 u92 u93 u94 u95 u96 u97 u98 u99 u100 u101 u102
    have HRS:Hid (res=if dT ty=true then(if 0<left then(if hR.length=20 then 13 else if 8<nlev (hR ++ [⟨next,s,tt,left,li,tg⟩]) then 13 else 0) else 0) else 0):=by
     have:=U oX;rw[if_neg g5,if_neg g4,if_neg gn] at this;exact this
    refine U xE _ _ ?_;clear xE g5 g4 gn oX k0;have js:Hid (∀w':World,V.grownBy w' none->w'.cell? (J (w.heap.size+1) 2)=some (H ty)/\w'.cell? (J c8 3)=some (H left)):=fun w' h'=>⟨zr (U HXV).2 h' hVS (by simp) 2 _ rfl,zr (U HC8) h' qU (by simp) 3 _ rfl⟩;have HRB:=Z (fun W=>gG ty W);cases brs:dT ty
    ·have HQ0:Hid (res=0):=(U HRS).trans (by rw[brs];rfl);rw[brs] at HRB;go_wp2_with fail;go_quiet ((go_at_call 42;refine Calls.quiet_of_same (U HRB _)));go_wp2_with fail;go_ret;exact⟨zB (U HQ0).symm,zR (U xK) _⟩
    rw[brs] at HRB
    by_cases bS:0<left
    ·by_cases hl20:hR.length=20
     ·have HQ0:Hid (res=13):=(U HRS).trans (by rw[if_pos brs,if_pos bS,if_pos hl20]);have dK:(hR.length:Int)=20:=by omega
      have hb20:((hR.length:Int)==20)=true:=by simpa using dK
      have hlf':decide (0<left)=true:=by simpa using bS
      clear hl20 dK;go_wp2_with fail;go_quiet ((go_at_call 42;refine Calls.quiet_of_same (U HRB _)));go_wp2_with fail;go_ret;exact⟨zB (U HQ0).symm,zR (U xK) _⟩
     ·have HQ0:Hid (res=if decide (8<((nlev (hR ++ [⟨next,s,tt,left,li,tg⟩]):Nat):Int))=true then 13 else 0):=(U HRS).trans (by
       rw[if_pos brs,if_pos bS,if_neg hl20]
       by_cases h8:8<nlev (hR ++ [⟨next,s,tt,left,li,tg⟩])
       ·rw[if_pos h8,if_pos (by simp only[xg];omega)]
       ·rw[if_neg h8,if_neg (by simp only[xg];omega)])
      have HLV2:=Z (fun(W:World) (v:Value) (hW:RdR Od.vs 6 W v (hR ++ [⟨next,s,tt,left,li,tg⟩]))=>l03Levels_any v (hR ++ [⟨next,s,tt,left,li,tg⟩]) W hW (by simp;omega));generalize ((nlev (hR ++ [⟨next,s,tt,left,li,tg⟩]):Nat):Int)=N at HQ0 HLV2;have dK:¬ (hR.length:Int)=20:=by omega
      have hb20:((hR.length:Int)==20)=false:=by rw[xe];exact dK
      have hlf':decide (0<left)=true:=by simpa using bS
      obtain⟨i0,vk,uI,uG,uZ⟩:=info_parts Tryz.infoOrder;clear hl20;go_wp2_with fail;refine zu (R9A (fun f=>{ tmps:=#[.agg #[H next,.slice a l.length cap],.agg (yx kk s ty li qt ii pr tg).toArray,I w.heap.size 0,I (w.heap.size+1) 0,H 0,u5,u6,.slice al hR.length cal,I c8 0,.slice ae ts.length ce,u10,u11,u12,u13,u14,u15,u16,u17,u18,u19,u20,u21,u22,u23,u24,u25,u26,u27,u28,u29,u30,u31,u32,u33,u34,u35,u36,u37,u38,u39,u40,u41,u42,u43,u44,u45,u46,u47,u48,u49,u50,u51,u52,u53,u54,u55,u56,u57,u58,u59,u60,u61,u62,u63,u64,u65,u66,u67,u68,u69,u70,u71,u72,u73,u74,u75,u76,u77,u78,u79,u80,u81,u82,u83,u84,u85,u86,u87,u88,u89,u90,u91,u92,u93,u94,u95,u96,u97,u98,u99,u100,u101,u102,f 0,f 1,f 2,f 3,f 4,f 5,f 6,f 7,f 8,f 9,f 10,f 11,f 12,f 13,f 14,f 15,f 16,f 17,f 18,f 19,f 20,f 21,f 22],defers:=[] }) (C9 w.heap.size c8 ty left (.slice al hR.length cal) hR.length (.agg (yw next s tt left li tg).toArray) N) V hR ⟨next,s,tt,left,li,tg⟩) (by kernel_rfl) ?_ ?_ ?_
      ·exact⟨fun j=>M,rfl,⟨⟨rfl,rfl,rfl,Nat.le_refl _,fun _ _=>rfl⟩,fun j hj=>by rw[yJ] at hj;split at hj <;> simp at hj,by simp,by simp,by simp,by simp⟩⟩
      ·rintro x zb V' ⟨f,rfl,L⟩ hx xS;have xq:=eE xS hx (acyc _ (by kernel_rfl));have e22:f 22 = .bool (decide (8<N)):=L.c 22 (xq 22 (by simp));have xI:=Z ((U xK).trans (L.bel.mono (U xK).size));simp only[e22];clear L xq e22 xS hx;cases hd:decide (8<N)
       ·have pQ:Hid (res=0):=(U HQ0).trans (by rw[hd];rfl);go_wp2_with fail;go_ret;exact⟨zB (U pQ).symm,U xI⟩
       ·have pQ:Hid (res=13):=(U HQ0).trans (by rw[hd];rfl);go_wp2_with fail;go_ret;exact⟨zB (U pQ).symm,U xI⟩
      ·rintro x zb V' i' o' ⟨f,rfl,L⟩ xn hx Q xu R;have xw:=Z L;have o2:V'.cell? (J (w.heap.size+1) 2)=some (H ty):=zc (U HXV).2 L.bel hVS 2 _ rfl;have HC9:=Z (zc (U HC8) L.bel qU);have c3:V'.cell? (J c8 3)=some (H left):=U HC9 3 _ rfl;have xo:=Z L.bel;clear HRS HQ0
       match i',Q with
       | 0,Q =>
        cases Q;clear R L xn;go_simp;exact⟨upd f 0 (I (w.heap.size+1) 2),by simp[upd],eJ (U xw) 0 _ rfl (by decide) (by decide) (by decide) (by decide)⟩
       | 1,Q =>
        cases Q;have g0:f 0=I (w.heap.size+1) 2:=L.c 0 (ye R 0 rfl);clear R L xn;go_simp;exact⟨upd f 1 (H ty),by simp[upd,g0],eJ (U xw) 1 _ rfl (by decide) (by decide) (by decide) (by decide)⟩
       | 2,Q =>
        cases Q;have g1:f 1=H ty:=L.c 1 (ye R 1 rfl);clear R L xn;go_simp;refine(gG ty _).mono ?_;rintro e w3 ⟨rfl,hw3⟩;rw[hw3,brs];exact⟨upd f 2 (.bool true),by simp[upd,g1],eJ (U xw) 2 _ rfl (by decide) (by decide) (by decide) (by decide)⟩
       | 3,Q =>
        cases Q;have g2:f 2 = .bool true:=L.c 2 (ye R 2 rfl);clear R L xn;go_simp;exact⟨upd f 3 (.bool true),by simp[upd,g2],eJ (U xw) 3 _ rfl (by decide) (by decide) (by decide) (by decide)⟩
       | 4,Q =>
        cases Q;have g3:f 3 = .bool true:=L.c 3 (ye R 3 rfl);clear R L xn;rw[if_pos (by simp only[g3];rfl)];unfold Oper.wp;go_simp;exact⟨upd f 4 (I c8 3),by simp[upd,g3],eJ (U xw) 4 _ rfl (by decide) (by decide) (by decide) (by decide)⟩
       | 5,Q =>
        cases Q;have g4:f 4=I c8 3:=L.c 4 (ye R 4 rfl);have g3:f 3 = .bool true:=L.c 3 (ye R 3 rfl);clear R L xn;rw[if_pos (by simp only[g3];rfl)];unfold Oper.wp;go_simp;exact⟨upd f 5 (H left),by simp[upd,g4,g3],eJ (U xw) 5 _ rfl (by decide) (by decide) (by decide) (by decide)⟩
       | 6,Q =>
        cases Q;have g5:f 5=H left:=L.c 5 (ye R 5 rfl);have g3:f 3 = .bool true:=L.c 3 (ye R 3 rfl);clear R L xn;rw[if_pos (by simp only[g3];rfl)];unfold Oper.wp;go_simp;exact⟨upd f 6 (.bool true),by simp[upd,g5,g3],eJ (U xw) 6 _ rfl (by decide) (by decide) (by decide) (by decide)⟩
       | 7,Q =>
        cases Q;have g3:f 3 = .bool true:=L.c 3 (ye R 3 rfl);have g6:f 6 = .bool true:=L.c 6 (ye R 6 rfl);clear R L xn;go_simp;exact⟨upd f 7 (.bool true),by simp[upd,g3,g6],eJ (U xw) 7 _ rfl (by decide) (by decide) (by decide) (by decide)⟩
       | 8,Q =>
        cases Q;have g7:f 7 = .bool true:=L.c 7 (ye R 7 rfl);clear R L xn;go_simp;exact⟨upd f 8 (.bool true),by simp[upd,g7],eJ (U xw) 8 _ rfl (by decide) (by decide) (by decide) (by decide)⟩
       | 9,Q =>
        cases Q;have g8:f 8 = .bool true:=L.c 8 (ye R 8 rfl);clear R L xn;rw[if_pos (by simp only[g8];rfl)];unfold Oper.wp;go_simp;exact⟨upd f 9 (.slice al hR.length cal),by simp[upd,g8],eJ (U xw) 9 _ rfl (by decide) (by decide) (by decide) (by decide)⟩
       | 10,Q =>
        cases Q;have g9:f 9 = .slice al hR.length cal:=L.c 9 (ye R 9 rfl);have g8:f 8 = .bool true:=L.c 8 (ye R 8 rfl);clear R L xn;rw[if_pos (by simp only[g8];rfl)];unfold Oper.wp;go_simp;exact⟨upd f 10 (H hR.length),by simp[upd,g9,g8],eJ (U xw) 10 _ rfl (by decide) (by decide) (by decide) (by decide)⟩
       | 11,Q =>
        cases Q;have jL:f 10=H hR.length:=L.c 10 (ye R 10 rfl);have g8:f 8 = .bool true:=L.c 8 (ye R 8 rfl);clear R L xn;rw[if_pos (by simp only[g8];rfl)];unfold Oper.wp;go_simp;exact⟨upd f 11 (.bool false),by simp[upd,jL,g8],eJ (U xw) 11 _ rfl (by decide) (by decide) (by decide) (by decide)⟩
       | 12,Q =>
        cases Q;have jB:f 11 = .bool false:=L.c 11 (ye R 11 rfl);have g8:f 8 = .bool true:=L.c 8 (ye R 8 rfl);clear R L xn;rw[if_pos (by simp only[g8];rfl)];unfold Oper.wp;go_simp;exact⟨upd f 12 (.bool false),by simp[upd,jB,g8],eJ (U xw) 12 _ rfl (by decide) (by decide) (by decide) (by decide)⟩
       | 13,Q =>
        cases Q;have vY:f 12 = .bool false:=L.c 12 (ye R 12 rfl);clear R L xn;rw[if_pos (by simp only[vY];rfl)];unfold Oper.wp;go_simp;exact⟨upd f 13 (.slice (some (J V'.heap.size 0)) 0 0),by simp[upd,vY],r9_13 (U xw) xu (fun _=>trivial)⟩
       | 14,Q =>
        cases Q;have vY:f 12 = .bool false:=L.c 12 (ye R 12 rfl);clear R L xn;rw[if_pos (by simp only[vY];rfl)];unfold Oper.wp;go_simp;exact⟨upd f 14 (.slice al hR.length cal),by simp[upd,vY],eJ (U xw) 14 _ rfl (by decide) (by decide) (by decide) (by decide)⟩
       | 15,Q =>
        cases Q;have vY:f 12 = .bool false:=L.c 12 (ye R 12 rfl);have pf:f 14 = .slice al hR.length cal:=L.c 14 (ye R 14 rfl);have k13:x[13]? = some true:=R ⟨13,.data⟩ (by simp) rfl
        have n18:x[18]? = some false:=by
         rcases fN hx (show 18<23 by omega) with h|h
         ·exact h
         ·have:=yf xn 18 rfl h 15 rfl;rw[xu] at this;cases this
        have HO13:=Z (L.m13 k13 xu)
        have qA:Hid (∀ad,al=some ad->∀j u,(hR.flatMap Od.vs)[j]? = some u->V'.cell? (ad.add j)=some u):=fun ad had=>by
         have h:=zi (U HRL) (U xo) ya;rw[had] at h;exact rd_src h
        clear R L xn;rw[if_pos (by simp only[vY];rfl)];rcases U HSV with h|⟨ad,nn,cc,h⟩
        ·simp only[Value.slice.injEq] at h;have hL:hR = []:=List.length_eq_zero_iff.1 h.2.1;refine lr (.tmp 116) (.tmp 117) 25 rfl V.heap.size 65 i0 6 Tryz.underlying25 vk (f 13) 0 [] rfl (U HO13) (by show f 14 = _;rw[pf,h.1,h.2.1,h.2.2]) ?_;refine⟨upd f 15 (f 13),rfl,r9_15 (U xw) k13 xu n18 (fun _=>trivial) (by rw[hL];exact U HO13) (yS _ _)⟩
        ·simp only[Value.slice.injEq] at h;refine wp_append_own V' (.tmp 116) (.tmp 117) 25 rfl V.heap.size 65 i0 _ 6 56 Tryz.underlying25 vk uI uG uZ rfl (by decide) (f 13) 0 [] rfl (U HO13) ad hR.length cal (hR.flatMap Od.vs) (by show f 14 = _;rw[pf,h.1]) (by rw[zY Od.len]) (U qA ad h.1) (fM hR) (by unfold maxLen;omega) (by omega) (U xo).size ?_;intro v' w' xY uR _;refine⟨upd f 15 v',rfl,r9_15 (U xw) k13 xu n18 (fun _=>trivial) ?_ uR⟩;show w'.ownsRow _ _ _ _ hR.length _;simpa using xY
       | 16,Q =>
        cases Q;have vY:f 12 = .bool false:=L.c 12 (ye R 12 rfl);obtain⟨q0,q1,q2,q3,q4,q5⟩:=yD (U HC9);clear R L xn;rw[if_pos (by simp only[vY];rfl)];unfold Oper.wp;go_simp;exact⟨upd f 16 (.agg (yw next s tt left li tg).toArray),by simp[upd,vY],eJ (U xw) 16 _ rfl (by decide) (by decide) (by decide) (by decide)⟩
       | 17,Q =>
        cases Q;have vY:f 12 = .bool false:=L.c 12 (ye R 12 rfl);have g16:f 16 = .agg (yw next s tt left li tg).toArray:=L.c 16 (ye R 16 rfl)
        have n18:x[18]? = some false:=by
         rcases fN hx (show 18<23 by omega) with h|h
         ·exact h
         ·have:=yf xn 18 rfl h 17 rfl;rw[xu] at this;cases this
        clear R L xn;rw[if_pos (by simp only[vY];rfl)];unfold Oper.wp;go_simp;exact⟨upd f 17 (.slice (some (J V'.heap.size 0)) 1 1),by simp[upd,vY,g16],r9_17 (U xw) xu n18 (fun _=>trivial)⟩
       | 18,Q =>
        cases Q;have vY:f 12 = .bool false:=L.c 12 (ye R 12 rfl);have pI:x[15]? = some true:=R ⟨15,.data⟩ (by simp) rfl;obtain⟨b,g17,uw,xO,xL,-⟩:=L.m17 (ye R 17 rfl) xu;have HO15:=Z (L.m15 pI xu)
        have qA:Hid (∀j u,(Od.vs ⟨next,s,tt,left,li,tg⟩)[j]? = some u->V'.cell? (((J b 0):Addr).add j)=some u):=fun j u hu=>by
         have:=xL j u hu;rw[Addr.add_mid];exact this
        clear R L xn xL;rw[if_pos (by simp only[vY];rfl)];refine wp_append_own V' (.tmp 118) (.tmp 120) 25 rfl V.heap.size 65 i0 _ 6 56 Tryz.underlying25 vk uI uG uZ rfl (by decide) (f 15) hR.length (hR.flatMap Od.vs) rfl (U HO15) (J b 0) 1 1 (Od.vs ⟨next,s,tt,left,li,tg⟩) (by show f 17 = _;exact g17) rfl (U qA) (one_od _) (by unfold maxLen;omega) (by omega) (U xo).size ?_;intro v' w' xY uR _;refine⟨upd f 18 v',rfl,r9_18 (U xw) pI xu (fun _=>trivial) ?_ uR⟩;show w'.ownsRow _ _ _ _ (hR ++ [(⟨next,s,tt,left,li,tg⟩:Od)]).length _;rw[yQ,List.flatMap_append];simpa using xY
       | 19,Q =>
        cases Q;have vY:f 12 = .bool false:=L.c 12 (ye R 12 rfl);have HO18:=Z (L.m18 (ye R 18 rfl));clear R L xn;rw[if_pos (by simp only[vY];rfl)];unfold Oper.wp;go_simp;refine(U HLV2 V' (f 18) (zI (U HO18) (by simp;omega))).mono ?_;rintro e w4 ⟨rfl,jv⟩;exact⟨upd f 19 (H N),by simp[upd,vY],eJ (r9_grow (U xw) (lk jv (fun g X=>by cases X) ya)) 19 _ rfl (by decide) (by decide) (by decide) (by decide)⟩
       | 20,Q =>
        cases Q;have g19:f 19=H N:=L.c 19 (ye R 19 rfl);have vY:f 12 = .bool false:=L.c 12 (ye R 12 rfl);clear R L xn;rw[if_pos (by simp only[vY];rfl)];unfold Oper.wp;go_simp;exact⟨upd f 20 (.bool (decide (8<N))),by simp[upd,g19,vY],eJ (U xw) 20 _ rfl (by decide) (by decide) (by decide) (by decide)⟩
       | 21,Q =>
        cases Q;have vY:f 12 = .bool false:=L.c 12 (ye R 12 rfl);have g20:f 20 = .bool (decide (8<N)):=L.c 20 (ye R 20 rfl);have g8:f 8 = .bool true:=L.c 8 (ye R 8 rfl);clear R L xn;rw[if_pos (by simp only[g8];rfl)];unfold Oper.wp;go_simp;exact⟨upd f 21 (.bool (decide (8<N))),by simp[upd,vY,g20,g8],eJ (U xw) 21 _ rfl (by decide) (by decide) (by decide) (by decide)⟩
       | 22,Q =>
        cases Q;have g8:f 8 = .bool true:=L.c 8 (ye R 8 rfl);have g21:f 21 = .bool (decide (8<N)):=L.c 21 (ye R 21 rfl);clear R L xn;go_simp;exact⟨upd f 22 (.bool (decide (8<N))),by simp[upd,g8,g21],eJ (U xw) 22 _ rfl (by decide) (by decide) (by decide) (by decide)⟩
       | n+23,Q=>simp at Q
    ·have HQ0:Hid (res=0):=(U HRS).trans (by rw[if_pos brs,if_neg bS]);have hlf':decide (0<left)=false:=by simpa using bS
     go_wp2_with fail;go_quiet ((go_at_call 42;refine Calls.quiet_of_same (U HRB _)));go_wp2_with fail;go_ret;exact⟨zB (U HQ0).symm,zR (U xK) _⟩
   clear xE
   have HTN:Hid (¬ (ty=5/\0<ts.length)->¬ (ty=4/\0<left)->next=1000000->res=13):=fun g5 g4 gn=>by
    have:=U oX;rw[if_neg g5,if_neg g4,if_pos gn] at this;exact this
   by_cases h5:ty=5
   ·by_cases hts:0<ts.length
    ·have pQ:Hid (res=11):=(U oX).trans (if_pos ⟨h5,hts⟩);subst h5;have hts':(0:Int)<ts.length:=by omega
     clear hts un HTN;go_wp2_with fail;go_ret;exact⟨zB (U pQ).symm,U xK⟩
    ·subst h5;have g5:¬ ((5:Int)=5/\0<ts.length):=fun h=>hts h.2;have g4:¬ ((5:Int)=4/\0<left):=fun h=>by omega
     have hts':¬ (0:Int)<ts.length:=by omega
     have htz:(ts.length:Int)=0:=by omega
     by_cases qy:next=1000000
     ·have pQ:=Z (U HTN g5 g4 qy);subst qy;clear un HTN g5 g4;go_wp2_with fail;go_ret;exact⟨zB (U pQ).symm,U xK⟩
     have bn:(next==1000000)=false:=by rw[xe];exact qy
     have kw:=Z (U un g5 g4 qy);clear un HTN g5 g4 qy;go_wp2_with fail;exact U kw _ _ _ _ _ _ _ _ _ _ _ _ _ _ _ _ _ _ _ _ _ _ _ _ _ _ _ _ _ _ _ _ _ _ _ _ _ _ _ _ _ _ _ _ _ _ _ _ _ _ _ _ _ _ _ _ _ _ _ _ _ _ _ _ _ _ _ _ _ _ _ _ _ _ _ _ _ _ _ _ _ _ _ _ _ _ _ _ _ _ _ _ _ _ _
   ·have b5:(ty==5)=false:=by rw[xe];exact h5
    have g5:¬ (ty=5/\0<ts.length):=fun h=>h5 h.1
    by_cases h4:ty=4
    ·by_cases bS:0<left
     ·have pQ:Hid (res=12):=(U oX).trans (by rw[if_neg g5,if_pos ⟨h4,bS⟩]);subst h4;clear un HTN h5 g5 b5;go_wp2_with fail;go_ret;exact⟨zB (U pQ).symm,U xK⟩
     ·subst h4;have g4:¬ ((4:Int)=4/\0<left):=fun h=>bS h.2
      by_cases qy:next=1000000
      ·have pQ:=Z (U HTN g5 g4 qy);subst qy;clear un HTN g5 g4;go_wp2_with fail;go_ret;exact⟨zB (U pQ).symm,U xK⟩
      have bn:(next==1000000)=false:=by rw[xe];exact qy
      have kw:=Z (U un g5 g4 qy);clear un HTN g5 g4 qy;go_wp2_with fail;exact U kw _ _ _ _ _ _ _ _ _ _ _ _ _ _ _ _ _ _ _ _ _ _ _ _ _ _ _ _ _ _ _ _ _ _ _ _ _ _ _ _ _ _ _ _ _ _ _ _ _ _ _ _ _ _ _ _ _ _ _ _ _ _ _ _ _ _ _ _ _ _ _ _ _ _ _ _ _ _ _ _ _ _ _ _ _ _ _ _ _ _ _ _ _ _ _
    ·have b4:(ty==4)=false:=by rw[xe];exact h4
     have g4:¬ (ty=4/\0<left):=fun h=>h4 h.1
     by_cases qy:next=1000000
     ·have pQ:=Z (U HTN g5 g4 qy);subst qy;clear un HTN g5 g4;go_wp2_with fail;go_ret;exact⟨zB (U pQ).symm,U xK⟩
     have bn:(next==1000000)=false:=by rw[xe];exact qy
     have kw:=Z (U un g5 g4 qy);clear un HTN g5 g4 qy;go_wp2_with fail;exact U kw _ _ _ _ _ _ _ _ _ _ _ _ _ _ _ _ _ _ _ _ _ _ _ _ _ _ _ _ _ _ _ _ _ _ _ _ _ _ _ _ _ _ _ _ _ _ _ _ _ _ _ _ _ _ _ _ _ _ _ _ _ _ _ _ _ _ _ _ _ _ _ _ _ _ _ _ _ _ _ _ _ _ _ _ _ _ _ _ _ _ _ _ _ _ _
  ·rintro x zb V i' o' ⟨f,rfl,L⟩ xn hx Q xu R;have xw:=Z L;have xo:=L.bel;have xM:=U uy;clear xE
   match i',Q with
   | 0,Q =>
    cases Q;clear R L xn;go_simp;exact⟨upd f 0 (I w.heap.size 1),by simp[upd],gj (U xw) 0 _ (by decide) (by decide) (by decide) (rfl)⟩
   | 1,Q =>
    cases Q;have g0:f 0=I w.heap.size 1:=L.e 0 (ye R 0 rfl);have z1:V.cell? (J w.heap.size 1)=some (.slice a l.length cap):=zc (U HX).1 xo (by omega) 1 _ rfl;clear R L xn;go_simp;exact⟨upd f 1 (.slice a l.length cap),by simp[upd,g0],gj (U xw) 1 _ (by decide) (by decide) (by decide) (rfl)⟩
   | 2,Q =>
    cases Q;have z0:V.cell? (J w.heap.size 0)=some (H next):=zc (U HX).1 xo (by omega) 0 _ rfl;have z1:V.cell? (J w.heap.size 1)=some (.slice a l.length cap):=zc (U HX).1 xo (by omega) 1 _ rfl;clear R L xn;go_simp;exact⟨upd f 2 (.agg #[H next,.slice a l.length cap]),by simp[upd],gj (U xw) 2 _ (by decide) (by decide) (by decide) (rfl)⟩
   | 3,Q =>
    cases Q;obtain⟨z0,z1,z2,z3,z4,z5,z6,z7⟩:=yE (zc (U HX).2 xo (by omega));clear R L xn;go_simp;exact⟨upd f 3 (.agg (yx kk s ty li qt ii pr tg).toArray),by simp[upd],gj (U xw) 3 _ (by decide) (by decide) (by decide) (rfl)⟩
   | 4,Q =>
    cases Q;have g2:f 2 = .agg #[H next,.slice a l.length cap]:=L.e 2 (ye R 2 rfl);have g3:f 3 = .agg (yx kk s ty li qt ii pr tg).toArray:=L.e 3 (ye R 3 rfl);clear R L xn;go_simp;refine(U HTKR _).mono ?_;rintro e w4 ⟨rfl,xy⟩;exact⟨upd f 4 (.agg (yw next s tt qt li tg).toArray),by simp[upd,g2,g3],gj (rn_grow (U xw) xy) 4 _ (by decide) (by decide) (by decide) rfl⟩
   | 5,Q =>
    cases Q;have g1:f 1 = .slice a l.length cap:=L.e 1 (ye R 1 rfl);have g4:f 4 = .agg (yw next s tt qt li tg).toArray:=L.e 4 (ye R 4 rfl)
    have vN:∀j,(j=6\/j=7\/j=9\/j=11\/j=13)->x[j]? ≠ some true:=fun j hj e=>by
     have h6:x[6]? ≠ some true:=fun e6=>by have:=yf xn 6 rfl e6 5 rfl;rw[xu] at this;cases this
     rcases hj with rfl|rfl|rfl|rfl|rfl
     ·exact h6 e
     ·exact h6 (yf xn 7 rfl e 6 rfl)
     ·exact h6 (yf xn 9 rfl e 6 rfl)
     ·exact h6 (yf xn 11 rfl e 6 rfl)
     ·exact h6 (yf xn 13 rfl e 6 rfl)
    have HNO:=Z vN;have aw:=Z (zi (zi (U HR) (U xv) ya) xo ya);clear R L xn vN;go_simp;refine(U dv V (U aw)).mono ?_;rintro e w4 ⟨lv,ve,rfl,hl4,he4,xy⟩;refine⟨upd f 5 (.tuple #[lv,.agg (yw next s tt left li tg).toArray,ve]),by simp[upd,g1,g4],rn_5 (U xw) xy ?_ ?_ (U HNO) ?_⟩
    ·rcases hl4 with⟨rfl,hL⟩|h
     ·simp only at hL;rw[hL];exact⟨zi (U aw) xy ya,U jg⟩
     ·exact⟨zI h (by have h20:hR.length<=20:=(U kW).1.len;show hR.length <= _;omega),oRow_sl h⟩
    ·rcases he4.2 with⟨D,Y⟩|⟨g,kG,xA,D,_⟩
     ·exact⟨none,0,by rw[D];simp only at Y;rw[Y]⟩
     ·exact⟨_,_,D⟩
    ·intro c8 oC qU xr e;rcases hl4 with⟨rfl,hL⟩|h
     ·simp only at hL;obtain⟨b,uw,xO⟩:=rd_block (U HR) (by rw[<- hL];exact xr);rw[uw] at e;simp only[Option.some.injEq] at e;have:=(U xv).size;omega
     ·have:=(h.lt c8 e).1;omega
   | 6,Q =>
    cases Q;clear R L xn;go_simp;exact⟨upd f 6 (f 5),by simp[upd],gj (U xw) 6 _ (by decide) (by decide) (by decide) (rfl)⟩
   | 7,Q =>
    cases Q;obtain⟨lv,ev,e5,-⟩:=L.m5 (yf xn 6 rfl (ye R 6 rfl) 5 rfl);have g6:f 6=f 5:=L.e 6 (ye R 6 rfl);rw[e5] at g6;clear R L xn;go_simp;exact⟨upd f 7 lv,by simp[upd,g6,e5],gj (U xw) 7 _ (by decide) (by decide) (by decide) ⟨lv,ev,e5,rfl⟩⟩
   | 8,Q =>
    cases Q;obtain⟨lv,ev,e5,-⟩:=L.m5 (yf xn 6 rfl (ye R 6 rfl) 5 rfl);have g6:f 6=f 5:=L.e 6 (ye R 6 rfl);rw[e5] at g6;clear R L xn;go_simp;exact⟨upd f 8 (.agg (yw next s tt left li tg).toArray),by simp[upd,g6,e5],gj (U xw) 8 _ (by decide) (by decide) (by decide) rfl⟩
   | 9,Q =>
    cases Q;obtain⟨lv,ev,e5,-⟩:=L.m5 (yf xn 6 rfl (ye R 6 rfl) 5 rfl);have g6:f 6=f 5:=L.e 6 (ye R 6 rfl);rw[e5] at g6;clear R L xn;go_simp;exact⟨upd f 9 ev,by simp[upd,g6,e5],gj (U xw) 9 _ (by decide) (by decide) (by decide) ⟨lv,ev,e5,rfl⟩⟩
   | 10,Q =>
    cases Q;have df:x[12]? ≠ some true:=fun e=>by have:=yf xn 12 rfl e 10 rfl;rw[xu] at this;cases this
    clear R L xn;go_simp;exact⟨upd f 10 (I V.heap.size 0),by simp[upd],rn_10 (U xw) df (zW V (yw 0 0 0 0 0 ⟨#[]⟩) _)⟩
   | 11,Q =>
    cases Q;obtain⟨lv,ev,e5,e7⟩:=L.e 7 (ye R 7 rfl);clear R L xn;go_simp;exact⟨upd f 11 lv,by simp[upd,e7,e5],gj (U xw) 11 _ (by decide) (by decide) (by decide) ⟨lv,ev,e5,rfl⟩⟩
   | 12,Q =>
    cases Q;have k5:x[5]? = some true:=R ⟨5,.phase⟩ (by simp) rfl;have k10:x[10]? = some true:=R ⟨10,.data⟩ (by simp) rfl;have g8:f 8 = .agg (yw next s tt left li tg).toArray:=L.e 8 (ye R 8 rfl);obtain⟨c8,jL,oC,qU,ue,-⟩:=L.m10 k10;obtain⟨y0,z0,q0⟩:=zj ue (j:=0) (by omega);obtain⟨y1,z1,q1⟩:=zj ue (j:=1) (by omega);obtain⟨y2,z2,q2⟩:=zj ue (j:=2) (by omega);obtain⟨y3,z3,q3⟩:=zj ue (j:=3) (by omega);obtain⟨y4,z4,q4⟩:=zj ue (j:=4) (by omega);obtain⟨y5,z5,q5⟩:=zj ue (j:=5) (by omega);clear R L xn ue;go_simp;exact⟨f,by simp[g8,jL],rn_12 (U xw) k5 k10 jL rfl xu⟩
   | 13,Q =>
    cases Q;obtain⟨lv,ev,e5,e9⟩:=L.e 9 (ye R 9 rfl);clear R L xn;go_simp;exact⟨upd f 13 ev,by simp[upd,e9,e5],gj (U xw) 13 _ (by decide) (by decide) (by decide) ⟨lv,ev,e5,rfl⟩⟩
   | n+14,Q=>simp at Q
 clear xE;cases bl:betB li 0 1;have hl:lifW ⟨kk,s,ty,li,qt,ii,pr,tg⟩=true:=by simp[lifW,bl]
 have HK:Hid (newR next l ⟨kk,s,ty,li,qt,ii,pr,tg⟩=5):=by show _ = _;simp[newR,bs,bt,hl]
 clear hl;rotate_left
 by_cases D:li=1
 subst D;cases brs:dT ty;have hl:lifW ⟨kk,s,ty,1,qt,ii,pr,tg⟩=true:=by simp[lifW,brs]
 have HK:Hid (newR next l ⟨kk,s,ty,1,qt,ii,pr,tg⟩=5):=by show _ = _;simp[newR,bs,bt,hl]
 clear hl;rotate_left;have hl:lifW ⟨kk,s,ty,1,qt,ii,pr,tg⟩=false:=by simp[lifW,brs,bl]
 by_cases Y:ty=2
 subst Y
 by_cases hz:fbit pr=0
 have hp:prcB ⟨kk,s,2,1,qt,ii,pr,tg⟩=true:=by simp[prcB,hz]
 have dz:decide (fbit pr=0)=true:=by simpa using hz
 clear hz;cases bq:betB qt 1 1000000;have HK:Hid (newR next l ⟨kk,s,2,1,qt,ii,pr,tg⟩=7):=by show _ = _;simp[newR,bs,bt,hl,hp,bq]
 clear hl hp;rotate_left;cases bg:tagB tg;have HK:Hid (newR next l ⟨kk,s,2,1,qt,ii,pr,tg⟩=8):=by show _ = _;simp[newR,bs,bt,hl,hp,bq,bg]
 clear hl hp;rotate_left;have un:=Z (U HT hl hp bq bg);clear HT hl hp;rotate_left;have hp:prcB ⟨kk,s,2,1,qt,ii,pr,tg⟩=false:=by simp[prcB,hz]
 have dz:decide (fbit pr=0)=false:=by simpa using hz
 clear hz;have HK:Hid (newR next l ⟨kk,s,2,1,qt,ii,pr,tg⟩=6):=by show _ = _;simp[newR,bs,bt,hl,hp]
 clear hl hp;rotate_left;have b2:(ty==2)=false:=by rw[xe];exact Y
 have b2n:(ty != 2)=true:=by simpa using Y
 cases bk:tkOk pr;have hp:prcB ⟨kk,s,ty,1,qt,ii,pr,tg⟩=false:=by simp[prcB,Y,bk]
 have HK:Hid (newR next l ⟨kk,s,ty,1,qt,ii,pr,tg⟩=6):=by show _ = _;simp[newR,bs,bt,hl,hp]
 clear hl hp Y;rotate_left;have hp:prcB ⟨kk,s,ty,1,qt,ii,pr,tg⟩=true:=by simp[prcB,Y,bk]
 clear Y;cases bq:betB qt 1 1000000;have HK:Hid (newR next l ⟨kk,s,ty,1,qt,ii,pr,tg⟩=7):=by show _ = _;simp[newR,bs,bt,hl,hp,bq]
 clear hl hp;rotate_left;cases bg:tagB tg;have HK:Hid (newR next l ⟨kk,s,ty,1,qt,ii,pr,tg⟩=8):=by show _ = _;simp[newR,bs,bt,hl,hp,bq,bg]
 clear hl hp;rotate_left;have un:=Z (U HT hl hp bq bg);clear HT hl hp;rotate_left;have hl:lifW ⟨kk,s,ty,li,qt,ii,pr,tg⟩=false:=by simp[lifW,bl,D]
 have b1:(li==1)=false:=by rw[xe];exact D
 clear D
 by_cases Y:ty=2
 subst Y
 by_cases hz:fbit pr=0
 have hp:prcB ⟨kk,s,2,li,qt,ii,pr,tg⟩=true:=by simp[prcB,hz]
 have dz:decide (fbit pr=0)=true:=by simpa using hz
 clear hz;cases bq:betB qt 1 1000000;have HK:Hid (newR next l ⟨kk,s,2,li,qt,ii,pr,tg⟩=7):=by show _ = _;simp[newR,bs,bt,hl,hp,bq]
 clear hl hp;rotate_left;cases bg:tagB tg;have HK:Hid (newR next l ⟨kk,s,2,li,qt,ii,pr,tg⟩=8):=by show _ = _;simp[newR,bs,bt,hl,hp,bq,bg]
 clear hl hp;rotate_left;have un:=Z (U HT hl hp bq bg);clear HT hl hp;rotate_left;have hp:prcB ⟨kk,s,2,li,qt,ii,pr,tg⟩=false:=by simp[prcB,hz]
 have dz:decide (fbit pr=0)=false:=by simpa using hz
 clear hz;have HK:Hid (newR next l ⟨kk,s,2,li,qt,ii,pr,tg⟩=6):=by show _ = _;simp[newR,bs,bt,hl,hp]
 clear hl hp;rotate_left;have b2:(ty==2)=false:=by rw[xe];exact Y
 have b2n:(ty != 2)=true:=by simpa using Y
 cases bk:tkOk pr;have hp:prcB ⟨kk,s,ty,li,qt,ii,pr,tg⟩=false:=by simp[prcB,Y,bk]
 have HK:Hid (newR next l ⟨kk,s,ty,li,qt,ii,pr,tg⟩=6):=by show _ = _;simp[newR,bs,bt,hl,hp]
 clear hl hp Y;rotate_left;have hp:prcB ⟨kk,s,ty,li,qt,ii,pr,tg⟩=true:=by simp[prcB,Y,bk]
 clear Y;cases bq:betB qt 1 1000000;have HK:Hid (newR next l ⟨kk,s,ty,li,qt,ii,pr,tg⟩=7):=by show _ = _;simp[newR,bs,bt,hl,hp,bq]
 clear hl hp;rotate_left;cases bg:tagB tg;have HK:Hid (newR next l ⟨kk,s,ty,li,qt,ii,pr,tg⟩=8):=by show _ = _;simp[newR,bs,bt,hl,hp,bq,bg]
 clear hl hp;rotate_left;have un:=Z (U HT hl hp bq bg);clear HT hl hp
 all_goals
  go_wp2_with (first|(go_at_call 71;refine(U uQ _).mono ?_;rintro e w' ⟨rfl,uq⟩;rw[uq];clear uq w')|(go_at_call 31;refine(fq _ _ _ _).mono ?_;rintro e w' ⟨rfl,uq⟩;rw[uq];clear uq w')|(go_at_call 42;refine(gG _ _).mono ?_;rintro e w' ⟨rfl,uq⟩;rw[uq];clear uq w')|(go_at_call 118;refine(U HZR _).mono ?_;rintro e w' ⟨rfl,uq⟩;rw[uq];clear uq w')|(go_at_call 65;refine(U kY _).mono ?_;rintro e w' ⟨rfl,uq⟩;rw[uq];clear uq w'))
  first
  | exact U un _ _ _ _ _ _ _ _ _ _ _ _ _ _ _ _ _ _ _ _ _ _ _ _ _ _ _ _ _ _ _ _ _ _ _ _ _ _ _ _ _ _ _ _ _ _ _ _ _ _ _ _ _ _ _ _ _ _ _ _ _ _ _
  | (go_ret;exact⟨zB (U HK).symm,U xv⟩)
end Go.Proofs.YthhkapcbocgcoaaGreatDoor
