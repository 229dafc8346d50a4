/-.-/
import Derived.Test.YtbghmldggahjiaaGreatDoorUj14
set_option linter.unusedVariables false
set_option maxHeartbeats 6400000
set_option maxRecDepth 100000
namespace Go.Proofs.YtbghmldggahjiaaGreatDoor
open Go.RowKit
theorem insT_len (s:Bool)(k:Int):∀T:List Int,(insT s k T).length<=T.length+1
 | []=>by simp[insT]
 | a::r=>by
  have:=insT_len s k r;rw[insT];split
  ·simp
  ·split <;> simp <;> omega
theorem tks_len (s:Bool):∀seq:List Od,(tks s seq).length<=seq.length
 | []=>by simp[tks]
 | o::r=>by
  have D:=insT_len s o.ticks (tks s r);have E:=tks_len s r;rw[tks];simp;omega
def backB:Nat->List Oper->Bool
 | _,[]=>true
 | i,o::r=>o.after.toList.all (fun e=>decide (e.on<i))&&backB (i+1) r
theorem back_spec:∀(l:List Oper) (n:Nat),backB n l=true->∀(i:Nat) (o:Oper),l[i]? = some o->∀e∈o.after,e.on<n+i
 | [],_,_,i,o,h,_,_=>by simp at h
 | a::r,n,A,0,o,h,e,he=>by
  simp at h;subst h;simp only[backB,xe,List.all_eq_true,xf] at A;exact A.1 e (by simpa using he)
 | a::r,n,A,i+1,o,h,e,he=>by
  simp only[backB,xe] at A;have:=back_spec r (n+1) A.2 i o (by simpa using h) e he;omega
theorem acyc (l:List Oper)(h:backB 0 l=true):∀(i:Nat) (o:Oper),l[i]? = some o->∀e∈o.after,e.on<i:=fun i o K e he=>by
 have:=back_spec l 0 h i o K e he;omega
def C10 (b1 b2 p5 p6 N1 N2:Nat):Nat->Value->Prop
 | 0,v=>v=xj p5 2
 | 1,v=>v = .func (.func 158) #[xj b1 0] #[]
 | 2,v=>∃a c,v = .slice a N1 c
 | 3,v=>v=H N1
 | 4,v=>v=xj p6 2
 | 5,v=>v = .func (.func 162) #[xj b2 0] #[]
 | 6,v=>∃a c,v = .slice a N2 c
 | 7,v=>v=H N2
 | 8,v=>v=H ((N1:Int)+N2)
 | 9,v=>v=H ((N1:Int)+N2)
 | _,_=>True
theorem lO (b1 b2:Nat)(sd1 sd2:Int)(s1 s2:List Od)(w:World)(D:dQ 249 true w b1 sd1 s1)(E:dQ 252 false w b2 sd2 s2)(n1:s1.length<=20)(n2:s2.length<=20) :
  Calls Tryz.prog 76 #[fo b1,fq b2] w fun e w'=>e=ym (H (((dX true sd1 s1).length:Int)+(dX false sd2 s2).length))/\yn w w':=by
 have xR:=zZ D;have xE:=zZ E;generalize hL1:(dX true sd1 s1).length=N1;generalize hL2:(dX false sd2 s2).length=N2;have hN1:N1<=20:=by rw[<- hL1,dX,List.length_map];exact yN (tks_len _ _) n1
 have hN2:N2<=20:=by rw[<- hL2,dX,List.length_map];exact yN (tks_len _ _) n2
 have cP:Hid ((dX true sd1 s1).length=N1/\(dX false sd2 s2).length=N2):=⟨hL1,hL2⟩;have xI:=zh w (J (sideL_b b1).toArray 133);have uc:((w.alloc (J (sideL_b b1).toArray 133)).alloc (J (sideL_s b2).toArray 133)).heap.size=w.heap.size+1+1:=by rw[zh,xI]
 have r0:=zo w (sideL_b b1) 133;have r1:=zo (w.alloc (J (sideL_b b1).toArray 133)) (sideL_s b2) 133;rw[xI] at r1;have r0':=zd r0 (C:=w.heap.size+1) ((Below.refl _ _).alloc (by rw[xI];omega) (J (sideL_s b2).toArray 133)) (by omega);have qe:Hid (yn w ((w.alloc (J (sideL_b b1).toArray 133)).alloc (J (sideL_s b2).toArray 133))):=(lT _ _).alloc (by rw[xI];omega) _;have HR5:=Q r0';have HR6:=Q r1;have vL:=Q uc;have jE:=Q (zH D ((Z qe).block _ xR));have ue:=Q (zH E ((Z qe).block _ xE));clear r0 r1 r0' xI uc hL1 hL2 D E;unfold fo fq;go_enter Tryz.func76,Tryz.ntmps76;go_wp2_with fail;unfold sideL_b sideL_s at qe HR5 HR6 vL jE ue;generalize hW:((w.alloc (J (List.toArray [.func (.func 156) #[xj b1 0] #[],.func (.func 157) #[xj b1 0] #[],.func (.func 158) #[xj b1 0] #[]]) 133)).alloc (J (List.toArray [.func (.func 160) #[xj b2 0] #[],.func (.func 161) #[xj b2 0] #[],.func (.func 162) #[xj b2 0] #[]]) 133))=W at qe HR5 HR6 vL jE ue;have hb1s:b1<W.heap.size:=zZ (Z jE);have hb2s:b2<W.heap.size:=zZ (Z ue);have hp5:w.heap.size<W.heap.size:=by rw[Z vL];omega
 have hp6:w.heap.size+1<W.heap.size:=by rw[Z vL];omega
 refine iO (RGrow W (fun f=>{ tmps:=#[fo b1,fq b2,yp w 0,xj (w.heap.size+1) 0,f 9,f 0,f 1,f 2,f 3,f 4,f 5,f 6,f 7,f 8],defers:=[] }) (C10 b1 b2 w.heap.size (w.heap.size+1) N1 N2)) (by kernel_rfl) ?_ ?_ ?_
 ·refine⟨upd (fun _=>F) 9 (H 0),rfl,?_,fun j hj=>by rw[yI] at hj;split at hj <;> simp at hj⟩;rw[<- hW];exact⟨rfl,rfl,rfl,Nat.le_refl _,fun _ _=>rfl⟩
 ·rintro x hb V ⟨f,rfl,xk,hC⟩ hx xU;have hall9:=eJ xU hx (acyc _ (by kernel_rfl)) 9 (by simp);have e9:f 9=H ((N1:Int)+N2):=hC 9 hall9;simp only[e9];have xM:=Q xk;clear hC hx xU hall9 e9 xk;go_wp2_with fail;go_ret;exact⟨rfl,(Z qe).trans ((Z xM).mono (Z qe).size)⟩
 ·rintro x hb V i o ⟨f,rfl,xk,hC⟩ hx K xJ I;have xM:=Q xk;have HC:=Q hC
  match i,K with
  | 0,K =>
   obtain rfl:=yb K;clear I hC xk;rw[if_pos (by rfl)];unfold Oper.wp;go_simp;exact⟨upd f 0 (yp w 2),by simp[upd],Z xM,zD (Z HC) rfl⟩
  | 1,K =>
   obtain rfl:=yb K;have g0:C10 b1 b2 w.heap.size (w.heap.size+1) N1 N2 0 (f 0):=hC 0 (ye I 0 rfl);simp only[C10] at g0;have d2:=zd (Z HR5) xk hp5 2 _ rfl;clear I hC xk;rw[if_pos (by rfl)];unfold Oper.wp;go_simp;exact⟨upd f 1 (.func (.func 158) #[xj b1 0] #[]),by simp[upd,g0],Z xM,zD (Z HC) rfl⟩
  | 2,K =>
   obtain rfl:=yb K;have g1:C10 b1 b2 w.heap.size (w.heap.size+1) N1 N2 1 (f 1):=hC 1 (ye I 1 rfl);simp only[C10] at g1;have ht:=zH (Z jE) (xk.block _ hb1s);have HTV:=Q ht;clear I hC xk ht;rw[if_pos (by rfl)];unfold Oper.wp;go_simp;refine(levels_b b1 sd1 s1 V (Z HTV) n1).mono ?_;rintro e w4 ⟨v4,rfl,⟨al,cp,rfl,-,-⟩,xz⟩;rw[(Z cP).1];exact⟨upd f 2 (.slice al N1 cp),by simp[upd,g1],(Z xM).trans (xz.mono (Z xM).size),zD (Z HC) ⟨al,cp,rfl⟩⟩
  | 3,K =>
   obtain rfl:=yb K;have g2:C10 b1 b2 w.heap.size (w.heap.size+1) N1 N2 2 (f 2):=hC 2 (ye I 2 rfl);obtain⟨al,cp,g2⟩:=g2;clear I hC xk;rw[if_pos (by rfl)];unfold Oper.wp;go_simp;exact⟨upd f 3 (H N1),by simp[upd,g2],Z xM,zD (Z HC) rfl⟩
  | 4,K =>
   obtain rfl:=yb K;clear I hC xk;rw[if_pos (by rfl)];unfold Oper.wp;go_simp;exact⟨upd f 4 (xj (w.heap.size+1) 2),by simp[upd],Z xM,zD (Z HC) rfl⟩
  | 5,K =>
   obtain rfl:=yb K;have g4:C10 b1 b2 w.heap.size (w.heap.size+1) N1 N2 4 (f 4):=hC 4 (ye I 4 rfl);simp only[C10] at g4;have d2:=zd (Z HR6) xk hp6 2 _ rfl;clear I hC xk;rw[if_pos (by rfl)];unfold Oper.wp;go_simp;exact⟨upd f 5 (.func (.func 162) #[xj b2 0] #[]),by simp[upd,g4],Z xM,zD (Z HC) rfl⟩
  | 6,K =>
   obtain rfl:=yb K;have g5:C10 b1 b2 w.heap.size (w.heap.size+1) N1 N2 5 (f 5):=hC 5 (ye I 5 rfl);simp only[C10] at g5;have ht:=zH (Z ue) (xk.block _ hb2s);have HTV:=Q ht;clear I hC xk ht;rw[if_pos (by rfl)];unfold Oper.wp;go_simp;refine(levels_s b2 sd2 s2 V (Z HTV) n2).mono ?_;rintro e w4 ⟨v4,rfl,⟨al,cp,rfl,-,-⟩,xz⟩;rw[(Z cP).2];exact⟨upd f 6 (.slice al N2 cp),by simp[upd,g5],(Z xM).trans (xz.mono (Z xM).size),zD (Z HC) ⟨al,cp,rfl⟩⟩
  | 7,K =>
   obtain rfl:=yb K;have g6:C10 b1 b2 w.heap.size (w.heap.size+1) N1 N2 6 (f 6):=hC 6 (ye I 6 rfl);obtain⟨al,cp,g6⟩:=g6;clear I hC xk;rw[if_pos (by rfl)];unfold Oper.wp;go_simp;exact⟨upd f 7 (H N2),by simp[upd,g6],Z xM,zD (Z HC) rfl⟩
  | 8,K =>
   obtain rfl:=yb K;have g3:C10 b1 b2 w.heap.size (w.heap.size+1) N1 N2 3 (f 3):=hC 3 (ye I 3 rfl);have g7:C10 b1 b2 w.heap.size (w.heap.size+1) N1 N2 7 (f 7):=hC 7 (ye I 7 rfl);simp only[C10] at g3;simp only[C10] at g7;have hwr8:IntKind.i64.wrap ((N1:Int)+N2)=(N1:Int)+N2:=by rw[IntKind.wrap_i64];omega
   clear I hC xk;rw[if_pos (by rfl)];unfold Oper.wp;go_simp;exact⟨upd f 8 (H ((N1:Int)+N2)),by simp[upd,g3,g7],Z xM,zD (Z HC) rfl⟩
  | 9,K =>
   obtain rfl:=yb K;have g8:C10 b1 b2 w.heap.size (w.heap.size+1) N1 N2 8 (f 8):=hC 8 (ye I 8 rfl);simp only[C10] at g8;clear I hC xk;rw[if_pos (by rfl)];unfold Oper.wp;go_simp;exact⟨upd f 9 (H ((N1:Int)+N2)),by simp[upd,g8],Z xM,zD (Z HC) rfl⟩
  | n+10,K=>simp at K
def ofC (c:Cm):Ev:=⟨0,c,0,0,0,0,0⟩
def dM (c d:Cm):Bool:=(c.k==d.k)&&((c.s==d.s)&&((c.t==d.t)&&((c.l==d.l)&&((c.q==d.q)&&((c.i==d.i)&&((fbit c.p==fbit d.p)&&decide (c.g.toList=d.g.toList)))))))
theorem eqVl (c d:Cm)(W:World):(binOp .eql 261 (vlV (ofC c)) (vlV (ofC d))).run Tryz.prog W = .ok (.bool (dM c d)) W:=by
 unfold vlV ofC;simp only;go_simp;unfold dM
 by_cases D:c.k=d.k
 ·by_cases E:c.s=d.s
  ·by_cases h3:c.t=d.t
   ·by_cases h4:c.l=d.l
    ·by_cases h5:c.q=d.q
     ·by_cases h6:c.i=d.i
      ·by_cases h7:fbit c.p=fbit d.p
       ·by_cases h8:c.g.toList=d.g.toList
        ·simp[D,E,h3,h4,h5,h6,h7,h8]
        ·simp[D,E,h3,h4,h5,h6,h7,h8]
       ·have h7':¬ ((fbit c.p:Int)=fbit d.p):=by omega
        have h7b:(fbit c.p==fbit d.p)=false:=by simpa using h7
        rw[if_neg h7',h7b];simp[D,E,h3,h4,h5,h6]
      ·simp[D,E,h3,h4,h5,h6]
     ·simp[D,E,h3,h4,h5]
    ·simp[D,E,h3,h4]
   ·simp[D,E,h3]
  ·simp[D,E]
 ·simp[D]
theorem eqGd (c d:Cm)(W:World):(eqGuard .eql 261 (.tmp 7) (.tmp 10) (vlV (ofC c)) (vlV (ofC d))).run Tryz.prog W = .ok () W:=by
 unfold vlV ofC;simp only;go_simp
def CS (c d:Cm):Nat->Value->Prop
 | 0,v=>v=cmV c
 | 1,v=>v=evV (ofC c)
 | 2,v=>v=vlV (ofC c)
 | 3,v=>v=cmV d
 | 4,v=>v=evV (ofC d)
 | 5,v=>v=vlV (ofC d)
 | 6,v=>v = .bool (dM c d)
 | 7,v=>v = .bool (dM c d)
 | _,_=>True
theorem lk (c d:Cm)(w:World) :
  Calls Tryz.prog 132 #[cmV c,cmV d] w fun e w'=>e=ym (.bool (dM c d))/\yn w w':=by
 have xI:=zh w (Obj.cells c.vs.toArray 57);have uc:((w.alloc (Obj.cells c.vs.toArray 57)).alloc (Obj.cells d.vs.toArray 57)).heap.size=w.heap.size+1+1:=by rw[zh,xI]
 have r0:=zd (zo w c.vs 57) (C:=w.heap.size+1) ((Below.refl _ _).alloc (by rw[xI];omega) (Obj.cells d.vs.toArray 57)) (by omega);have r1:=zo (w.alloc (Obj.cells c.vs.toArray 57)) d.vs 57;rw[xI] at r1;have qe:Hid (yn w ((w.alloc (Obj.cells c.vs.toArray 57)).alloc (Obj.cells d.vs.toArray 57))):=(lT _ _).alloc (by rw[xI];omega) _;have HX:Hid (_/\_):=⟨r0,r1⟩;have vL:=Q uc;clear r0 r1 xI uc;unfold cmV;go_enter Tryz.func132,Tryz.ntmps132;go_wp2_with fail;unfold Cm.vs at qe HX vL;generalize hW:((w.alloc (J (List.toArray (yx c.k c.s c.t c.l c.q c.i c.p c.g)) 57)).alloc (J (List.toArray (yx d.k d.s d.t d.l d.q d.i d.p d.g)) 57))=W at qe HX vL;refine iO (RGrow W (fun f=>{ tmps:=#[cmV c,cmV d,yp w 0,xj (w.heap.size+1) 0,f 7,f 0,f 1,f 2,f 3,f 4,f 5,f 6],defers:=[] }) (CS c d)) (by kernel_rfl) ?_ ?_ ?_
 ·refine⟨upd (fun _=>F) 7 (.bool false),rfl,?_,fun j hj=>by rw[yI] at hj;split at hj <;> simp at hj⟩;rw[<- hW];exact⟨rfl,rfl,rfl,Nat.le_refl _,fun _ _=>rfl⟩
 ·rintro x hb V ⟨f,rfl,xk,hC⟩ hx xU;have hall7:=eJ xU hx (acyc _ (by kernel_rfl)) 7 (by simp);have e7:f 7 = .bool (dM c d):=hC 7 hall7;simp only[e7];have xM:=Q xk;clear hC hx xU hall7 e7 xk;go_wp2_with fail;go_ret;exact⟨rfl,(Z qe).trans ((Z xM).mono (Z qe).size)⟩
 ·rintro x hb V i o ⟨f,rfl,xk,hC⟩ hx K xJ I;have xM:=Q xk;have HC:=Q hC;have hw0:w.heap.size<W.heap.size:=by rw[Z vL];omega
  have ju:w.heap.size+1<W.heap.size:=by rw[Z vL];omega
  match i,K with
  | 0,K =>
   obtain rfl:=yb K;obtain⟨x0,x1,x2,x3,x4,x5,x6,x7⟩:=cm_cells (c:=c) (zd (Z HX).1 xk hw0);simp only[Nat.zero_add] at x0 x1 x2 x3 x4 x5 x6 x7;clear I hC xk;rw[if_pos (by rfl)];unfold Oper.wp;go_simp;exact⟨upd f 0 (cmV c),by simp[upd,cmV],Z xM,zD (Z HC) rfl⟩
  | 1,K =>
   obtain rfl:=yb K;have g0:f 0=cmV c:=hC 0 (ye I 0 rfl);clear I hC xk;rw[if_pos (by rfl)];unfold Oper.wp;unfold cmV at g0;go_simp;exact⟨upd f 1 (evV (ofC c)),by simp[upd,evV,ofC,cmV,g0],Z xM,zD (Z HC) rfl⟩
  | 2,K =>
   obtain rfl:=yb K;have g1:f 1=evV (ofC c):=hC 1 (ye I 1 rfl);clear I hC xk;rw[if_pos (by rfl)];unfold Oper.wp;go_simp;refine(valueOf_any (ofC c) V).mono ?_;rintro e w4 ⟨rfl,xz⟩;exact⟨upd f 2 (vlV (ofC c)),by simp[upd,g1],(Z xM).trans (xz.mono (Z xM).size),zD (Z HC) rfl⟩
  | 3,K =>
   obtain rfl:=yb K;obtain⟨x0,x1,x2,x3,x4,x5,x6,x7⟩:=cm_cells (c:=d) (zd (Z HX).2 xk ju);simp only[Nat.zero_add] at x0 x1 x2 x3 x4 x5 x6 x7;clear I hC xk;rw[if_pos (by rfl)];unfold Oper.wp;go_simp;exact⟨upd f 3 (cmV d),by simp[upd,cmV],Z xM,zD (Z HC) rfl⟩
  | 4,K =>
   obtain rfl:=yb K;have g0:f 3=cmV d:=hC 3 (ye I 3 rfl);clear I hC xk;rw[if_pos (by rfl)];unfold Oper.wp;unfold cmV at g0;go_simp;exact⟨upd f 4 (evV (ofC d)),by simp[upd,evV,ofC,cmV,g0],Z xM,zD (Z HC) rfl⟩
  | 5,K =>
   obtain rfl:=yb K;have g1:f 4=evV (ofC d):=hC 4 (ye I 4 rfl);clear I hC xk;rw[if_pos (by rfl)];unfold Oper.wp;go_simp;refine(valueOf_any (ofC d) V).mono ?_;rintro e w4 ⟨rfl,xz⟩;exact⟨upd f 5 (vlV (ofC d)),by simp[upd,g1],(Z xM).trans (xz.mono (Z xM).size),zD (Z HC) rfl⟩
  | 6,K =>
   obtain rfl:=yb K;have g2:f 2=vlV (ofC c):=hC 2 (ye I 2 rfl);have g5:f 5=vlV (ofC d):=hC 5 (ye I 5 rfl);have he:=eqVl c d V;have M:=eqGd c d V;clear I hC xk;rw[if_pos (by rfl)];unfold Oper.wp;go_simp;exact⟨upd f 6 (.bool (dM c d)),by simp[upd,g2,g5],Z xM,zD (Z HC) rfl⟩
  | 7,K =>
   obtain rfl:=yb K;have g6:f 6 = .bool (dM c d):=hC 6 (ye I 6 rfl);clear I hC xk;rw[if_pos (by rfl)];unfold Oper.wp;go_simp;exact⟨upd f 7 (.bool (dM c d)),by simp[upd,g6],Z xM,zD (Z HC) rfl⟩
  | n+8,K=>simp at K
theorem takeR {α:Type}(l:List α)(k:Nat)(c:α)(h:l[k]? = some c):l.take (k+1)=l.take k ++ [c]:=by
 obtain⟨X,rfl⟩:=yG.1 h;rw[List.take_succ_eq_append_getElem X]
theorem Tryz.infoOrder:(Tryz.prog.info? 98).map (fun i=>(i.zero,i.size,i.bytes))=some (some (.agg (yw 0 0 0 0 0 ⟨#[]⟩).toArray),6,56):=by kernel_rfl

def ahdB (a b:Od):Bool:=if a.ticks=b.ticks then decide (a.id<b.id) else(decide (b.ticks<a.ticks)==decide (a.side=1))
theorem ahd_iff (a b:Od):ahdB a b=true ↔ ahd (decide (a.side=1)) a b:=by
 unfold ahdB ahd
 by_cases h:a.ticks=b.ticks
 ·rw[if_pos h];simp only[xf];constructor
  ·exact fun D=>.inr ⟨h,D⟩
  ·rintro(D|D)
   ·rw[h] at D;exact absurd D (bt_irr _ _)
   ·exact D.2
 ·rw[if_neg h]
  by_cases hs:a.side=1
  ·simp only[hs,decide_true,beq_true,xf,bt];constructor
   ·exact fun D=>.inl D
   ·rintro(D|D)
    ·exact D
    ·exact absurd D.1 h
  ·simp only[hs,decide_false,beq_false,Bool.not_eq_true',decide_eq_false_iff_not,bt];constructor
   ·exact fun D=>.inl (by omega)
   ·rintro(D|D)
    ·omega
    ·exact absurd D.1 h
def FrPre (l:List Od)(sd:Int)(k:Nat)(best:Int):Prop:=
 (best = -1/\∀j o,j<k->l[j]? = some o->o.side≠sd) \/
 ∃(i:Nat) (o:Od),best=i/\i<k/\l[i]? = some o/\o.side=sd/\∀j o',j<k->l[j]? = some o'->o'.side=sd->j≠i->ahd (decide (sd=1)) o o'
theorem frPre_skip {l:List Od}{sd:Int}{k:Nat}{best:Int}{c:Od}(h:FrPre l sd k best)(hc:l[k]? = some c)(hs:c.side≠sd):FrPre l sd (k+1) best:=by
 rcases h with⟨rfl,h⟩|⟨i,o,rfl,D,E,h3,h4⟩
 ·refine .inl ⟨rfl,fun j o hj K=>?_⟩
  by_cases hjk:j=k
  ·subst hjk;rw[hc] at K;obtain rfl:=yb K;exact hs
  ·exact h j o (by omega) K
 ·refine .inr ⟨i,o,rfl,by omega,E,h3,fun j o' hj K bF xy=>?_⟩
  by_cases hjk:j=k
  ·subst hjk;rw[hc] at K;obtain rfl:=yb K;exact absurd bF hs
  ·exact h4 j o' (by omega) K bF xy
theorem frPre_first {l:List Od}{sd:Int}{k:Nat}{c:Od}(h:FrPre l sd k (-1))(hc:l[k]? = some c)(hs:c.side=sd):FrPre l sd (k+1) k:=by
 rcases h with⟨_,h⟩|⟨i,o,h0,_⟩
 ·refine .inr ⟨k,c,rfl,by omega,hc,hs,fun j o' hj K bF xy=>?_⟩;exact absurd bF (h j o' (by omega) K)
 ·omega
theorem rising_ne {l:List Od}(hr:ew l){i j:Nat}{a b:Od}(ha:l[i]? = some a)(A:l[j]? = some b)(xy:i≠j):a.id≠b.id:=by
 obtain⟨D,rfl⟩:=yG.1 ha;obtain⟨E,rfl⟩:=yG.1 A;have hp:=List.pairwise_iff_getElem.1 hr;rcases Nat.lt_or_gt_of_ne xy with h|h
 ·have:=hp i j D E h;omega
 ·have:=hp j i E D h;omega
theorem frPre_better {l:List Od}{sd:Int}{k i:Nat}{c o:Od}(hr:ew l)(h:FrPre l sd k i)(K:l[i]? = some o)(hc:l[k]? = some c)(hs:c.side=sd)(A:ahdB c o=true):FrPre l sd (k+1) k:=by
 rcases h with⟨h0,h⟩|⟨i',o',h0,D,E,h3,h4⟩
 ·omega
 ·obtain rfl:i=i':=by omega
  rw[K] at E;obtain rfl:=Option.some.inj E;have hco:ahd (decide (sd=1)) c o:=by rw[<- hs];exact(ahd_iff c o).1 A
  refine .inr ⟨k,c,rfl,by omega,hc,hs,fun j o' hj qF bF xy=>?_⟩
  by_cases hji:j=i
  ·subst hji;rw[K] at qF;obtain rfl:=yb qF;exact hco
  ·exact ahd_trans hco (h4 j o' (by omega) qF bF hji)
theorem frPre_worse {l:List Od}{sd:Int}{k i:Nat}{c o:Od}(hr:ew l)(h:FrPre l sd k i)(K:l[i]? = some o)(hc:l[k]? = some c)(hs:c.side=sd)(A:ahdB c o=false):FrPre l sd (k+1) i:=by
 rcases h with⟨h0,h⟩|⟨i',o',h0,D,E,h3,h4⟩
 ·omega
 ·obtain rfl:i=i':=by omega
  rw[K] at E;obtain rfl:=Option.some.inj E;have hnco:¬ ahd (decide (sd=1)) c o:=by rw[<- hs];intro hh;rw[(ahd_iff c o).2 hh] at A;cases A
  have hoc:ahd (decide (sd=1)) o c:=by
   rcases ahd_total (s:=decide (sd=1)) (rising_ne hr hc K (by omega)) with hh|hh
   ·exact absurd hh hnco
   ·exact hh
  refine .inr ⟨i,o,rfl,by omega,K,h3,fun j o' hj qF bF xy=>?_⟩
  by_cases hjk:j=k
  ·subst hjk;rw[hc] at qF;obtain rfl:=yb qF;exact hoc
  ·exact h4 j o' (by omega) qF bF xy
def difB (c y:Od):Bool:=decide (y.side≠c.side)||decide (y.ticks≠c.ticks)
def fR (c:Od)(L:List Od):Bool:=L.all (difB c)
theorem nlev_fresh (l:List Od)(x:Od):nlev (l ++ [x])=nlev l+(fR x l).toNat:=by
 rw[nlev_snoc];congr 1
 by_cases h:∃y∈l,y.side=x.side/\y.ticks=x.ticks
 ·rw[if_pos h]
  have:fR x l=false:=by
   obtain⟨y,D,E,h3⟩:=h;rw[fR,List.all_eq_false];exact⟨y,D,by simp[difB,E,h3]⟩
  rw[this];rfl
 ·rw[if_neg h]
  have:fR x l=true:=by
   rw[fR,List.all_eq_true];intro y hy;simp only[difB,ne_eq,Bool.or_eq_true,xf]
   by_cases D:y.side=x.side
   ·exact .inr fun E=>h ⟨y,hy,D,E⟩
   ·exact .inl D
  rw[this];rfl
theorem frPre_end {l:List Od}{sd:Int}{k:Int}(h:FrPre l sd l.length k):(k = -1/\∀o∈l,o.side≠sd) \/ ∃(i:Nat) (o:Od),k=i/\i<l.length/\IsFront (decide (sd=1)) l sd i o:=by
 rcases h with⟨rfl,h⟩|⟨i,o,rfl,D,E,h3,h4⟩
 ·refine .inl ⟨rfl,fun o K=>?_⟩;obtain⟨j,hj⟩:=List.mem_iff_getElem?.1 K;exact h j o (yG.1 hj).1 hj
 ·exact .inr ⟨i,o,rfl,D,E,h3,fun j o' K hs xy=>h4 j o' (yG.1 K).1 K hs xy⟩
theorem front_head {s:Bool}{l:List Od}{sd:Int}(hr:ew l):((quOf s (zB l sd)).head? = none/\∀o∈l,o.side≠sd) \/ ∃i o,(quOf s (zB l sd)).head? = some o/\IsFront s l sd i o:=by
 cases h:(quOf s (zB l sd)).head? with
 | none=>exact .inl ⟨rfl,queue_none (gz s _) h⟩
 | some o =>
  obtain⟨i,hi⟩:=queue_front hr (gz s _) h;exact .inr ⟨i,o,rfl,hi⟩
end Go.Proofs.YtbghmldggahjiaaGreatDoor
