/-.-/
import Derived.Test.YtkofhemdefffpaaGreatDoorPq08
import Derived.Test.YtkofhemdefffpaaGreatDoorPq09
set_option linter.unusedVariables false
set_option maxHeartbeats 6400000
set_option maxRecDepth 100000
namespace Go.Proofs.YtkofhemdefffpaaGreatDoor
open Go.RowKit
theorem l04Taker_any (next:Int)(a:Option Addr)(n cap:Nat)(c:Cm)(w:World) :
  Calls Tryz.prog 34 #[.agg #[H next,.slice a n cap],cmV c] w fun e w'=>e=yn (.agg (yx next c.s (tkS c.p) c.q c.l c.g).toArray)/\yp w w':=by
 obtain⟨k,s,t,l,q,i,p,g⟩:=c;unfold cmV;simp only;have HT:=U (fun W=>l01Ticks_any p W);generalize tkS p=tt at HT |-;generalize tkOk p=tb at HT;go_enter Tryz.func34,Tryz.ntmps34;go_wp2_with fail;refine(O HT _).mono ?_;rintro e w' ⟨rfl,rfl⟩;go_wp2_with fail;go_returns;exact⟨rfl,by go_grown⟩
def dP (c:Cm):Bool:=
 if c.k=1 then(c.i==0) else if c.s≠0\/c.t≠0\/c.l≠0\/fbit c.p≠0\/c.g.toList.isEmpty=false then false else((c.k==3)||(c.q==0))&&((c.k != 4)||(c.i==0))
theorem l04Form_any (c:Cm)(w:World) :
  Calls Tryz.prog 52 #[cmV c] w fun e w'=>e=yn (.bool (dP c))/\yp w w':=by
 obtain⟨k,s,t,l,q,i,p,g⟩:=c;unfold cmV;simp only
 by_cases Z:k=1
 ·subst Z;have HK:Hid (dP ⟨1,s,t,l,q,i,p,g⟩=(i==0)):=by show _ = _;simp[dP]
  go_enter Tryz.func52,Tryz.ntmps52;go_wp2_with fail;go_ret;exact⟨zB (O HK).symm,by go_grown⟩
 have b1:(k==1)=false:=by rw[xe];exact Z
 by_cases hs:s=0
 ·subst hs
  by_cases ht:t=0
  ·subst ht
   by_cases hl:l=0
   ·subst hl;have HZ:=U (fun W=>l04Zero_any p W)
    have HFI:Hid (∀z:Bool,decide (fbit p=0)=z->dP ⟨k,0,0,0,q,i,p,g⟩=if z=true then(if g.toList.isEmpty=false then false else((k==3)||(q==0))&&((k != 4)||(i==0))) else false):=by
     intro z hz;subst hz
     by_cases hp:fbit p=0 <;> simp[dP,Z,hp]
    have HFJ:=U (O HFI _ rfl);generalize decide (fbit p=0)=z at HZ HFJ;clear HFI Z;go_enter Tryz.func52,Tryz.ntmps52;go_wp2_with fail;refine(O HZ _).mono ?_;rintro e w' ⟨rfl,rfl⟩;cases z
    ·have HK:Hid (dP ⟨k,0,0,0,q,i,p,g⟩=false):=O HFJ;go_wp2_with fail;go_ret;exact⟨zB (O HK).symm,by go_grown⟩
    ·have HFK:Hid (dP ⟨k,0,0,0,q,i,p,g⟩=if g.toList.isEmpty=false then false else((k==3)||(q==0))&&((k != 4)||(i==0))):=by
      show _ = _;have:=O HFJ;simpa using this
     clear HFJ HZ;cases F:g.toList.isEmpty
     ·have bg:(!g.toList.isEmpty)=true:=by rw[F];rfl
      have HK:Hid (dP ⟨k,0,0,0,q,i,p,g⟩=false):=(O HFK).trans (if_pos F);clear F;go_wp2_with fail;go_ret;exact⟨zB (O HK).symm,by go_grown⟩
     have bg:(!g.toList.isEmpty)=false:=by rw[F];rfl
     have HFL:Hid (dP ⟨k,0,0,0,q,i,p,g⟩=(((k==3)||(q==0))&&((k != 4)||(i==0)))):=(O HFK).trans (if_neg (by rw[F];simp));clear F HFK
     by_cases I:k=3
     ·subst I;have HK:Hid (dP ⟨3,0,0,0,q,i,p,g⟩=true):=(O HFL).trans (by simp);go_wp2_with fail;go_ret;exact⟨zB (O HK).symm,by go_grown⟩
     have b3:(k==3)=false:=by rw[xe];exact I
     by_cases hq:q=0
     ·subst hq
      by_cases h4:k=4
      ·subst h4;have HK:Hid (dP ⟨4,0,0,0,0,i,p,g⟩=(i==0)):=(O HFL).trans (by simp);clear I;go_wp2_with fail;go_ret;exact⟨zB (O HK).symm,by go_grown⟩
      ·have b4:(k != 4)=true:=by simpa using h4
       have HK:Hid (dP ⟨k,0,0,0,0,i,p,g⟩=true):=(O HFL).trans (by simp[h4]);clear I h4;go_wp2_with fail;go_ret;exact⟨zB (O HK).symm,by go_grown⟩
     ·have bq:(q==0)=false:=by rw[xe];exact hq
      have HK:Hid (dP ⟨k,0,0,0,q,i,p,g⟩=false):=(O HFL).trans (by simp[I,hq]);clear I hq;go_wp2_with fail;go_ret;exact⟨zB (O HK).symm,by go_grown⟩
   ·have HK:Hid (dP ⟨k,0,0,l,q,i,p,g⟩=false):=by show _ = _;simp[dP,Z,hl]
    have bl:(l != 0)=true:=by simpa using hl
    clear Z hl;go_enter Tryz.func52,Tryz.ntmps52;go_wp2_with fail;go_ret;exact⟨zB (O HK).symm,by go_grown⟩
  ·have HK:Hid (dP ⟨k,0,t,l,q,i,p,g⟩=false):=by show _ = _;simp[dP,Z,ht]
   have bl:(t != 0)=true:=by simpa using ht
   clear Z ht;go_enter Tryz.func52,Tryz.ntmps52;go_wp2_with fail;go_ret;exact⟨zB (O HK).symm,by go_grown⟩
 ·have HK:Hid (dP ⟨k,s,t,l,q,i,p,g⟩=false):=by show _ = _;simp[dP,Z,hs]
  have bl:(s != 0)=true:=by simpa using hs
  clear Z hs;go_enter Tryz.func52,Tryz.ntmps52;go_wp2_with fail;go_ret;exact⟨zB (O HK).symm,by go_grown⟩
theorem float_nought:floatOfInt .f64 0=0:=by decide
theorem tkS_pos {x:Nat}(h:tkOk x=true):tkS x≠0:=by
 rw[tkS_ok h];unfold tk;rw[if_pos h];unfold tkOk at h;simp only[xf,Bool.or_eq_true,beq_iff_eq] at h;obtain⟨⟨h0,Z⟩,Q⟩:=h;intro e;rw[e,float_nought] at Q;obtain⟨r,n,hm,_⟩:=price_four h0 Z
 have hr:tkR x=r:=by
  unfold tkR;rw[show FloatKind.f64.format.mul x 4616189618054758400=some r from hm];rfl
 rw[hr] at Q;exact four_pos h0 Z hm Q
theorem fbit_zero {x:Nat}(h:fbit x=0):x=0:=by
 unfold fbit at h;split at h
 ·omega
 ·exact h
theorem tkS_zero {x:Nat}(h:fbit x=0):tkS x=0:=by
 rw[fbit_zero h];decide
theorem side_of {s:Int}(h:betB s 1 2=true):s=1\/s=2:=by
 simp[betB] at h;omega
theorem oth_of {s:Int}(h:s=1\/s=2):3-s=othS s:=by
 rcases h with rfl|rfl <;> rfl
theorem cross_meet {c:Cm}(hp:prcB c=true)(o:Od):fc c.s (tkS c.p) o=dL c o:=by
 unfold prcB at hp
 by_cases Q:c.t=2
 ·rw[if_pos Q] at hp;rw[tkS_zero (of_decide_eq_true hp),fc,if_pos rfl,dL,if_pos Q]
 ·rw[if_neg Q] at hp;rw[fc,if_neg (tkS_pos hp),dL,if_neg Q,tkS_ok hp]
def NexS (l:List Od)(t:Od)(k:Int):Prop:=
 (k = -1/\(t.left=0\/dv l (othS t.side)=none \/ ∃o,dv l (othS t.side)=some o/\fc t.side t.ticks o=false)) \/
 ∃(i:Nat) (o:Od),k=i/\i<l.length/\l[i]? = some o/\dv l (othS t.side)=some o/\fc t.side t.ticks o=true/\t.left≠0
theorem front_pre {l:List Od}{sd k:Int}(hr:dQ l)(h:FrPre l sd l.length k):(k = -1/\dv l sd=none) \/ ∃(i:Nat) (o:Od),k=i/\i<l.length/\l[i]? = some o/\dv l sd=some o:=by
 rcases frPre_end h with⟨rfl,qZ⟩|⟨i,o,rfl,hi,hfo⟩
 ·refine .inl ⟨rfl,?_⟩;rcases front_head (s:=decide (sd=1)) (sd:=sd) hr with⟨Z,_⟩|⟨j,o',Z,hf'⟩
  ·exact Z
  ·exact absurd hf'.2.1 (qZ o' (yP hf'.1))
 ·refine .inr ⟨i,o,rfl,hi,hfo.1,?_⟩;rcases front_head (s:=decide (sd=1)) (sd:=sd) hr with⟨_,qZ⟩|⟨j,o',Z,hf'⟩
  ·exact absurd hfo.2.1 (qZ o (yP hfo.1))
  ·rw[dv,Z,(front_unique hf' hfo).2]
theorem hit_side {l:List Od}{k:Nat}{o:Od}{q:Int}(E:l[k]? = some o)(hs:∀x∈l,x.side=1\/x.side=2):∀x∈db l k o q,x.side=1\/x.side=2:=by
 intro x hx;unfold db at hx;split at hx
 ·rcases List.mem_append.1 hx with h|h
  ·exact hs x (List.mem_of_mem_take h)
  ·exact hs x (List.mem_of_mem_drop h)
 ·rcases List.mem_or_eq_of_mem_set hx with h|rfl
  ·exact hs x h
  ·exact hs o (yP E)
theorem matL_side {c:Cm}{id:Int}:∀(n:Nat) (l:List Od) (left:Int) (ts:List Ev),dQ l->GoodL l->0<=left->left<=1000000->(∀x∈l,x.side=1\/x.side=2)->∀x∈(matL c id n l left ts).1,x.side=1\/x.side=2
 | 0,l,left,ts,_,_,_,_,hs=>hs
 | n+1,l,left,ts,hr,F,h0,Z,hs=>by
  rw[matL]
  by_cases hl:0<left
  ·rw[if_pos hl];cases hf:dv l (othS c.s) with
   | none=>exact hs
   | some o =>
    simp only
    by_cases hm:dL c o=true
    ·rw[if_pos hm];obtain⟨un,_⟩:=fL hf;obtain⟨k,E⟩:=List.getElem?_of_mem un;have D:=F.left o un;rw[fd hr E,Int.toNat_natCast];have vn:=(eT F E (qty:=min left o.left) (by omega) (by omega)).1;exact matL_side n _ _ _ vn.rise vn (by omega) (by omega) (hit_side E hs)
    ·rw[if_neg hm];exact hs
  ·rw[if_neg hl];exact hs
def fullS (l:List Od)(t:Od):Bool:=decide (l.length=20)||decide (8<nlev (l ++ [t]))
theorem full_eq {l:List Od}{t:Od}(hl:l.length<=20)(hs:∀x∈l ++ [t],x.side=1\/x.side=2):eA (l ++ [t])=fullS l t:=by
 unfold eA fullS;have hn:=nlev_eq hs (eG true _) (eG false _)
 by_cases h:l.length=20
 ·rw[if_pos (by simp;omega)];simp[h]
 ·rw[if_neg (by simp;omega),dS,dS,List.length_map,List.length_map,hn];simp only[h,decide_false,Bool.false_or];rw[Bool.eq_iff_iff];simp only[xg];omega
def matS (next:Int)(c:Cm)(hg:List Od × Int × List Ev):Int:=
 if c.t=5/\0<hg.2.2.length then 11 else if c.t=4/\0<hg.2.1 then 12 else if next=1000000 then 13
 else if dj c.t=true then(if 0<hg.2.1 then(if hg.1.length=20 then 13 else if 8<nlev (hg.1 ++ [⟨next,c.s,tkS c.p,hg.2.1,c.l,c.g⟩]) then 13 else 0) else 0) else 0
theorem matS_eq {next:Int}{c:Cm}{l:List Od}(F:GoodL l)(uF:∀x∈l,x.side=1\/x.side=2)(hs:betB c.s 1 2=true)(hp:prcB c=true)(hq:betB c.q 1 1000000=true):matS next c (matL c next 21 l c.q [])=matR next c (matL c next 21 l c.q []):=by
 have hq':1<=c.q/\c.q<=1000000:=by simpa[betB] using hq
 have au:=fY (c:=c) (id:=next) 21 l c.q [] F (by omega) (by omega);have hside:=matL_side (c:=c) (id:=next) 21 l c.q [] F.rise F (by omega) (by omega) uF;generalize matL c next 21 l c.q []=hg at *;unfold matS matR
 by_cases Z:c.t=5/\0<hg.2.2.length
 ·rw[if_pos Z,if_pos Z]
 rw[if_neg Z,if_neg Z]
 by_cases Q:c.t=4/\0<hg.2.1
 ·rw[if_pos Q,if_pos Q]
 rw[if_neg Q,if_neg Q]
 by_cases I:next=1000000
 ·rw[if_pos I,if_pos I]
 rw[if_neg I,if_neg I]
 by_cases h4:dj c.t=true
 ·by_cases h5:0<hg.2.1
  ·rw[if_pos h4,if_pos h5,if_pos (show dj c.t=true/\0<hg.2.1 from⟨h4,h5⟩)]
   have jZ:c.t≠2:=by
    intro e;rw[e] at h4;exact absurd h4 (by decide)
   have uA:tkOk c.p=true:=by unfold prcB at hp;rw[if_neg jZ] at hp;exact hp
   have D:({ ordO c next with left:=hg.2.1 }:Od)=⟨next,c.s,tkS c.p,hg.2.1,c.l,c.g⟩:=by
    unfold ordO;rw[tkS_ok uA]
   rw[D]
   have hfe:=full_eq (l:=hg.1) (t:=⟨next,c.s,tkS c.p,hg.2.1,c.l,c.g⟩) au.1.len (fun x hx=>by
    rcases List.mem_append.1 hx with h|h
    ·exact hside x h
    ·simp at h;subst h;exact side_of hs)
   rw[hfe];unfold fullS
   by_cases h6:hg.1.length=20
   ·simp[h6]
   ·by_cases h7:8<nlev (hg.1 ++ [⟨next,c.s,tkS c.p,hg.2.1,c.l,c.g⟩])
    ·simp[h6,h7]
    ·simp[h6,h7]
  ·rw[if_pos h4,if_neg h5,if_neg (by simp[h5])]
 ·rw[if_neg h4,if_neg (by simp[h4])]
def refS (next:Int)(l:List Od)(c:Cm):Int:=
 if betB c.k 1 4=false then 1 else if dP c=false then 2 else if c.k=1 then newR next l c else if c.k=4 then 0
 else if c.k=3/\betB c.q 1 1000000=false then 7 else if plc l c.i<0 then 9
 else match l[(plc l c.i).toNat]? with|some o=>if c.k=3/\o.left<=c.q then 10 else 0|none=>0
theorem same_form {k s t l q i:Int}{p:Nat}{g:ByteArray}(E:k=1\/k=2\/k=3\/k=4):dP ⟨k,s,t,l,q,i,p,g⟩=(if k=1 then dd ⟨1,s,t,l,q,0,p,g⟩ ⟨k,s,t,l,q,i,p,g⟩ else if k=2 then dd ⟨2,0,0,0,0,i,0,⟨#[]⟩⟩ ⟨k,s,t,l,q,i,p,g⟩ else if k=3 then dd ⟨3,0,0,0,q,i,0,⟨#[]⟩⟩ ⟨k,s,t,l,q,i,p,g⟩ else dd ⟨4,0,0,0,0,0,0,⟨#[]⟩⟩ ⟨k,s,t,l,q,i,p,g⟩):=by
 have hz:fbit 0=0:=by decide
 have he:(⟨#[]⟩:ByteArray).toList = []:=by unfold ByteArray.toList;rw[ByteArray.toList.loop];rfl
 have F:∀x:List UInt8,decide ([]=x)=x.isEmpty:=by intro x;cases x <;> rfl
 rw[Bool.eq_iff_iff];rcases E with rfl|rfl|rfl|rfl
 ·simp[dP,dd];omega
 ·simp[dP,dd,hz,he];constructor
  ·rintro⟨⟨Z,Q,I,h4,h5⟩,h6⟩;exact⟨Z.symm,Q.symm,I.symm,h6.symm,h4.symm,h5⟩
  ·rintro⟨Z,Q,I,h6,h4,h5⟩;exact⟨⟨Z.symm,Q.symm,I.symm,h4.symm,h5⟩,h6.symm⟩
 ·simp[dP,dd,hz,he];constructor
  ·rintro⟨Z,Q,I,h4,h5⟩;exact⟨Z.symm,Q.symm,I.symm,h4.symm,h5⟩
  ·rintro⟨Z,Q,I,h4,h5⟩;exact⟨Z.symm,Q.symm,I.symm,h4.symm,h5⟩
 ·simp[dP,dd,hz,he];constructor
  ·rintro⟨⟨Z,Q,I,h4,h5⟩,h6,h7⟩;exact⟨Z.symm,Q.symm,I.symm,h6.symm,h7.symm,h4.symm,h5⟩
  ·rintro⟨Z,Q,I,h6,h7,h4,h5⟩;exact⟨⟨Z.symm,Q.symm,I.symm,h4.symm,h5⟩,h6.symm,h7.symm⟩
theorem ref_eq (next:Int)(l:List Od)(c:Cm):refS next l c=refR next l c:=by
 obtain⟨k,s,t,li,q,i,p,g⟩:=c
 by_cases E:k=1\/k=2\/k=3\/k=4
 ·have K:betB k 1 4=true:=by simp[betB];omega
  have hf:=same_form (s:=s) (t:=t) (l:=li) (q:=q) (i:=i) (p:=p) (g:=g) E;unfold refS refR;simp only[K,hf];rcases E with rfl|rfl|rfl|rfl
  ·simp;cases dd ⟨1,s,t,li,q,0,p,g⟩ ⟨1,s,t,li,q,i,p,g⟩ <;> simp
  ·simp;cases dd ⟨2,0,0,0,0,i,0,⟨#[]⟩⟩ ⟨2,s,t,li,q,i,p,g⟩ <;> simp[idR]
   rcases iH l i with e|⟨k,o,e,D⟩
   ·rw[e];rfl
   ·rw[e];simp[D]
  ·simp;cases dd ⟨3,0,0,0,q,i,0,⟨#[]⟩⟩ ⟨3,s,t,li,q,i,p,g⟩ <;> simp[redR]
   cases betB q 1 1000000 <;> simp
   rcases iH l i with e|⟨k,o,e,D⟩
   ·rw[e];rfl
   ·rw[e];simp[D]
  ·simp;cases dd ⟨4,0,0,0,0,0,0,⟨#[]⟩⟩ ⟨4,s,t,li,q,i,p,g⟩ <;> simp
 ·have K:betB k 1 4=false:=by
   cases h:betB k 1 4
   ·rfl
   ·simp[betB] at h;omega
  unfold refS refR;simp only[K];simp;rw[if_neg (by omega),if_neg (by omega),if_neg (by omega),if_neg (by omega)]
end Go.Proofs.YtkofhemdefffpaaGreatDoor
