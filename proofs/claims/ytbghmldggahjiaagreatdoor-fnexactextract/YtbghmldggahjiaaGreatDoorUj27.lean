/-.-/
import Derived.Test.YtbghmldggahjiaaGreatDoorUj26
set_option linter.unusedVariables false
set_option maxHeartbeats 6400000
set_option maxRecDepth 100000
namespace Go.Proofs.YtbghmldggahjiaaGreatDoor
open Go.RowKit
structure MR (g:Gr) (t:Od) (kd:Int) (dy:List Od):Prop where
 left:t.left=g.tk.left
 same:g.tk.left≠0->t=g.tk
 side:t.side=0\/t.side=1\/t.side=2
 kd:g.bg=1->kd=g.cm.t
 dy:dy=if g.bg=8 then g.l.filter isDy else[]
def lftM (kd:Int)(t:Od):Du:=⟨if dP kd=true then 4 else 5,t.id,0,t.left,0⟩
def dueM (l:List Od)(t:Od)(kd:Int)(dy:List Od):Du:=
 if t.left≠0 then(match dN l (othS t.side) with
  | some o=>if eT t.side t.ticks o=true then⟨3,t.id,o.id,min t.left o.left,o.ticks⟩ else lftM kd t
  | none=>lftM kd t)
 else match dy with
  | o :: _=>⟨9,o.id,0,o.left,0⟩
  | []=>zDu
theorem lft_eq (c:Cm)(t:Od):lftM c.t t=lftD c t:=by
 unfold lftM lftD;split <;> rfl
theorem filter_find {l:List Od}:(match l.filter isDy with|o :: _=>(⟨9,o.id,0,o.left,0⟩:Du) | []=>zDu)=dayD l:=by
 unfold dayD;rw[<- List.head?_filter];cases l.filter isDy <;> rfl
theorem dueM_eq {g:Gr}{t:Od}{kd:Int}{dy:List Od}(h:GI g)(hm:MR g t kd dy):dueM g.l t kd dy=dueG g:=by
 unfold dueM dueG
 by_cases D:g.bg=1
 ·rw[if_pos D];obtain⟨a1,a2,a3⟩:=h.acc D;unfold takD
  by_cases h0:g.tk.left=0
  ·rw[if_pos h0,if_neg (by rw[hm.left];simpa using h0),hm.dy,if_neg (by omega)]
  ·obtain⟨b1,b2,_⟩:=a3 h0;rw[if_neg h0,if_pos (by rw[hm.left];exact h0),hm.same h0,hm.kd D,lft_eq,b1,b2];cases dN g.l (othS g.cm.s) with
   | none=>rfl
   | some o=>simp only[cross_meet a2]
 ·rw[if_neg D];have h0:=h.free D;rw[if_neg (by rw[hm.left];simpa using h0),hm.dy]
  by_cases h8:g.bg=8
  ·rw[if_pos h8,if_pos h8];exact filter_find
  ·rw[if_neg h8,if_neg h8]
def fstM (nx:Int)(l:List Od)(e:Ev):Int:=
 if zR e.kind=false then 3
 else if e.kind=2 then(if refR nx l (zV e)=0\/refR nx l (zV e)≠e.reason then 4 else 0)
 else if refR nx l (zV e)≠0 then 5
 else if e.kind=1 then(if e.id≠nx then 6 else 0)
 else if e.kind=6 then(if e.qty≠leftAt l e.id then 7 else 0)
 else if e.kind=8 then(if e.qty≠((dys l).length:Int) then 7 else 0)
 else 0
def latM (d:Du)(e:Ev):Int:=
 if zR e.kind=true then 3
 else if d.kind=0 then 8
 else if d.kind=9\/e.kind=9 then(if dO e d=true then 0 else 14)
 else if d.kind≠3 then(if e.kind=3 then 9 else if dO e d=true then 0 else 13)
 else if e.kind≠3 then 13
 else if e.id≠d.id then 9
 else if e.other≠d.other then 10
 else if e.price≠d.price then 11
 else if e.qty≠d.qty then 12
 else 0
def ruleM (g:Gr)(e:Ev):Int:=if g.bg=0 then fstM g.nx g.l e else latM (dueG g) e
theorem dysF_len:∀(l:List Od) (k:Nat),(dysF l k).length=(l.filter isDy).length
 | [],_=>rfl
 | o::r,k=>by
  rw[dysF,List.filter_cons]
  by_cases h:o.life=1
  ·rw[if_pos h,if_pos (by simpa[isDy] using h),List.length_cons,List.length_cons,dysF_len r (k+1)]
  ·rw[if_neg h,if_neg (by simpa[isDy] using h),dysF_len r (k+1)]
theorem ruleM_eq {g:Gr}{e:Ev}(X:1<=e.kind/\e.kind<=9):ruleM g e=zx g e:=by
 have hd:((dys g.l).length:Int)=((g.l.filter isDy).length:Int):=by rw[dys,dysF_len]
 unfold ruleM
 by_cases h0:g.bg=0
 ·rw[if_pos h0];unfold fstM zx zX dueR;rw[hd];rcases(show e.kind=1\/e.kind=2\/e.kind=3\/e.kind=4\/e.kind=5\/e.kind=6\/e.kind=7\/e.kind=8\/e.kind=9 by omega) with k|k|k|k|k|k|k|k|k
  ·simp[k,zR,h0];split <;> simp_all
  ·simp[k,zR,h0,zV];split <;> split <;> simp_all
  ·simp[k,zR,h0]
  ·simp[k,zR,h0]
  ·simp[k,zR,h0]
  ·simp[k,zR,h0];split <;> simp_all
  ·simp[k,zR,h0]
  ·simp[k,zR,h0];split <;> simp_all
  ·simp[k,zR,h0]
 ·rw[if_neg h0];unfold latM zx zX dueR trR;rcases(show e.kind=1\/e.kind=2\/e.kind=3\/e.kind=4\/e.kind=5\/e.kind=6\/e.kind=7\/e.kind=8\/e.kind=9 by omega) with k|k|k|k|k|k|k|k|k
  ·simp[k,zR,h0]
  ·simp[k,zR,h0]
  ·simp only[k,zR,h0];generalize dueG g=d;have hn:d.kind=9->dO e d=false:=fun h=>by unfold dO;rw[k,h];rfl
   cases hj:dO e d <;> by_cases d0:d.kind=0 <;> by_cases d9:d.kind=9 <;> by_cases d3:d.kind=3 <;> simp[d0,d9,d3] <;> grind
  ·simp only[k,zR,h0];generalize hdd:dueG g=d;have hn:d.kind=3->dO e d=false:=fun h=>by unfold dO;rw[k,h];rfl
   cases hj:dO e d <;> by_cases d0:d.kind=0 <;> by_cases d9:d.kind=9 <;> by_cases d3:d.kind=3 <;> simp[d0,d9,d3] <;> grind
  ·simp only[k,zR,h0];generalize hdd:dueG g=d;have hn:d.kind=3->dO e d=false:=fun h=>by unfold dO;rw[k,h];rfl
   cases hj:dO e d <;> by_cases d0:d.kind=0 <;> by_cases d9:d.kind=9 <;> by_cases d3:d.kind=3 <;> simp[d0,d9,d3] <;> grind
  ·simp[k,zR,h0]
  ·simp[k,zR,h0]
  ·simp[k,zR,h0]
  ·simp only[k,zR,h0];generalize dueG g=d;cases hj:dO e d <;> by_cases d0:d.kind=0 <;> simp[d0] <;> grind
theorem filter_gone {l:List Od}{k:Nat}{o:Od}{r:List Od}(X:l[k]? = some o)(hr:ew l)(hf:l.filter isDy=o::r):(l.take k++l.drop (k+1)).filter isDy=r:=by
 have hl:l=l.take k++o::l.drop (k+1):=by
  obtain⟨D,rfl⟩:=yG.1 X;rw[<- xc D,List.take_append_drop]
 have K:isDy o=true:=by
  have:o∈l.filter isDy:=by rw[hf];exact List.mem_cons_self
  exact(List.mem_filter.1 this).2
 have D:(l.take k).filter isDy++o::(l.drop (k+1)).filter isDy=o::r:=by
  rw[<- hf]
  conv=>rhs;rw[hl]
  rw[List.filter_append,List.filter_cons,if_pos K]
 rw[List.filter_append];cases hc:(l.take k).filter isDy with
 | nil=>rw[hc] at D;simpa using D
 | cons a b =>
  exfalso;rw[hc] at D;simp only[List.cons_append,List.cons.injEq] at D;have ha:a∈l.take k:=(List.mem_filter.1 (by rw[hc];exact List.mem_cons_self)).1;rw[D.1] at ha;obtain⟨j,hj⟩:=List.getElem?_of_mem ha
  have hjk:j<k:=by
   have:=(yG.1 hj).1;simp at this;omega
  rw[List.getElem?_take] at hj;rw[if_pos hjk] at hj;have:=rise_id hr hj X rfl;omega
def tkM (g:Gr)(t:Od)(e:Ev):Od:=
 if e.kind=1 then⟨g.nx,e.cmd.s,tkS e.cmd.p,e.cmd.q,e.cmd.l,e.cmd.g⟩ else if e.kind=3 then { t with left:=t.left-e.qty } else if e.kind=4\/e.kind=5 then zOd else t
def kdM (kd:Int)(e:Ev):Int:=if e.kind=1 then e.cmd.t else kd
def dyM (g:Gr)(dy:List Od)(e:Ev):List Od:=if e.kind=8 then g.l.filter isDy else if e.kind=9 then dy.tail else dy
theorem mr_start (next:Int)(l:List Od):MR (gr0 next l) zOd 0 []:=
 ⟨rfl,fun h=>absurd rfl h,.inl rfl,fun h=>absurd (show(0:Int)=1 from h) (by decide),rfl⟩
theorem mr_step {g:Gr}{t:Od}{kd:Int}{dy:List Od}{e:Ev}(h:GI g)(hm:MR g t kd dy)(he:okE e=true)(hr:zx g e=0):MR (dK g e) (tkM g t e) (kdM kd e) (dyM g dy e):=by
 have X:=fx he;obtain⟨nx,l,bg,cm,tk⟩:=g;have cB:=hm.left;have hm2:=hm.same;have hm3:=hm.side;have hm4:=hm.kd;have qR:=hm.dy;simp only at cB hm2 hm4 qR;rcases(show e.kind=1\/e.kind=2\/e.kind=3\/e.kind=4\/e.kind=5\/e.kind=6\/e.kind=7\/e.kind=8\/e.kind=9 by omega) with k|k|k|k|k|k|k|k|k
 ·obtain⟨D,E,h3⟩:=rule1 k hr;simp only at D E h3;subst D;obtain⟨a1,a2,a3,a4⟩:=new_ok (ref_newG (okE_new he k).1 E);rw[step1 k];simp only[tkM,kdM,dyM,begG,k];refine⟨rfl,fun _=>?_,.inr (side_of a1),fun _=>rfl,?_⟩
  ·show(⟨nx,e.cmd.s,tkS e.cmd.p,e.cmd.q,e.cmd.l,e.cmd.g⟩:Od)=ordO e.cmd e.id;rw[ordO,h3,tk_tkS a2]
  ·rw[qR];rfl
 ·have D:=rule2 k hr;simp only at D;subst D;rw[step2 k];simp only[tkM,kdM,dyM,begG,k];exact⟨cB,hm2,hm3,fun h9=>absurd h9 (by first|(simp;done)|simp[k]),by rw[qR];rfl⟩
 ·obtain⟨D,E,o,h3,h4,h5,h6,h7,h8⟩:=rule3 k hr;simp only at D E h3 h4 h5 h7;subst D;have hs:=hm2 E;subst hs;rw[step3 k];simp only[tkM,kdM,dyM,begG,k];exact⟨rfl,fun _=>rfl,hm3,fun _=>hm4 rfl,by rw[qR];rfl⟩
 ·obtain⟨D,E⟩:=gm (.inl k) hr;simp only at D E;subst D;rw[step4 k];simp only[tkM,kdM,dyM,begG,k];exact⟨rfl,fun h9=>absurd rfl h9,.inl rfl,fun _=>hm4 rfl,by rw[qR];rfl⟩
 ·obtain⟨D,E⟩:=gm (.inr k) hr;simp only at D E;subst D;rw[step5 k];simp only[tkM,kdM,dyM,begG,k];exact⟨rfl,fun h9=>absurd rfl h9,.inl rfl,fun _=>hm4 rfl,by rw[qR];rfl⟩
 ·obtain⟨D,_⟩:=rule6 k hr;simp only at D;subst D;rw[step6 k];simp only[tkM,kdM,dyM,begG,k];exact⟨cB,hm2,hm3,fun h9=>absurd h9 (by first|(simp;done)|simp[k]),by rw[qR];rfl⟩
 ·obtain⟨D,_⟩:=rule7 k hr;simp only at D;subst D;rw[step7 k];simp only[tkM,kdM,dyM,begG,k];exact⟨cB,hm2,hm3,fun h9=>absurd h9 (by first|(simp;done)|simp[k]),by rw[qR];rfl⟩
 ·have D:=rule8 k hr;simp only at D;subst D;rw[step8 k];simp only[tkM,kdM,dyM,begG,k];exact⟨cB,hm2,hm3,fun h9=>absurd h9 (by first|(simp;done)|simp[k]),rfl⟩
 ·obtain⟨D,o,E,h3,h4,h5⟩:=rule9 k hr;simp only at D E;subst D;have M:=h.good (.inl (by first|(simp;done)|simp[k]));obtain⟨i,hi⟩:=find_at E;have hp:=eX M.rise hi;rw[if_pos rfl] at qR;rw[<- List.head?_filter] at E
  obtain⟨r,hr2⟩:∃r,l.filter isDy=o::r:=by
   cases hc:l.filter isDy with
   | nil=>rw[hc] at E;simp at E
   | cons a b=>rw[hc] at E;simp at E;subst E;exact⟨b,rfl⟩
  rw[step9 k];simp only[tkM,kdM,dyM,begG,h3,fi hp hi,k];refine⟨cB,hm2,hm3,fun h9=>absurd h9 (by first|(simp;done)|simp[k]),?_⟩;rw[qR,hr2];show r=List.filter isDy (dL l i o o.left);rw[dL,if_pos rfl,filter_gone hi M.rise hr2]
theorem tryE_box (w:World):Bx ((w.alloc (J (yv 0 0 0 0 0 0 0 0 ⟨#[]⟩ 0 0 0 0 0).toArray 89)).alloc (J #[.nilIface] 74)) w.heap.size (yv 0 0 0 0 0 0 0 0 ⟨#[]⟩ 0 0 0 0 0):=
 zf (zj w (yv 0 0 0 0 0 0 0 0 ⟨#[]⟩ 0 0 0 0 0) 89) ((Below.refl (w.heap.size+1) _).alloc (by simp) _) (by omega)
theorem tryE_err (w:World):Bx ((w.alloc (J (yv 0 0 0 0 0 0 0 0 ⟨#[]⟩ 0 0 0 0 0).toArray 89)).alloc (J #[.nilIface] 74)) (w.heap.size+1) [.nilIface]:=by
 have h:=zj (w.alloc (J (yv 0 0 0 0 0 0 0 0 ⟨#[]⟩ 0 0 0 0 0).toArray 89)) [.nilIface] 74;rwa[show(w.alloc (J (yv 0 0 0 0 0 0 0 0 ⟨#[]⟩ 0 0 0 0 0).toArray 89)).heap.size=w.heap.size+1 by simp] at h
theorem gr_set1 {w W:World}{R b j:Nat}{u:Value}(h:w.grownBy W (some R))(A:w.heap.size<=b):w.grownBy (W.setCell ⟨b,j,none⟩ u) (some R):=
 ⟨h.os,h.tape,h.output,by have:=h.size;simpa[World.setCell] using this,fun i hi hR=>by rw[yS _ _ _ _ (by show i≠b;omega)];exact h.block i hi hR⟩
theorem lM (p:Addr)(x:Value)(c k:Int)(older:List PanicEntry)(w:World)(hc:w.cell? p=some x)(hz:w.frozen? p=false) :
  CallsD Tryz.prog 139 #[.pointer (some p)] (.panicking ({ v:=dU c k,recovered:=false } :: older)) w fun e u' w' =>
   e = .returned (.tuple #[])/\u' = .panicking ({ v:=dU c k,recovered:=true } :: older)/\w'=w.setCell p (dU c k):=by
 refine callsD_of_wpS Tryz.func139 rfl fun c₀ cs hu=>?_;simp only[dU] at hu |-;apply wpS_seq;apply wpS_region;simp[wpOpsS,go_sem,recoverD,hu,Tryz.ntmps139,Exit.thenS,ta_fault];apply wpS_seq;apply wpS_region;simp[wpOpsS,go_sem,Exit.thenS];refine wpS_cond (t:=true) (by simp[Act.eval,Array.replicate]) ?_;simp only[if_true];apply wpS_region;simp[wpOpsS,go_sem,hc,hz,bodyPostS,results,Tryz.results139]
theorem catch_idleE (p:Addr)(w:World) :
  CallsD Tryz.prog 139 #[.pointer (some p)] .returning w fun e u' w'=>e = .returned (.tuple #[])/\u' = .returning/\w'=w:=by
 refine callsD_of_wpS Tryz.func139 rfl fun c₀ cs hu=>?_;apply wpS_seq;apply wpS_region;simp[wpOpsS,go_sem,recoverD,hu,Tryz.ntmps139,Exit.thenS,ta_nil];apply wpS_seq;apply wpS_region;simp[wpOpsS,go_sem,Exit.thenS];refine wpS_cond (t:=false) (by simp[Act.eval,Array.replicate]) ?_;simp only[Bool.false_eq_true,if_false];refine wpS_of_wp (wp_skip ?_);cases c₀
 simp_all [bodyPostS,results,Tryz.results139]
theorem tryE_ok (B:Nat)(a:Option Addr)(len cap:Nat)(k:Int)(x:Ev)(next:Int)(w:World)(hr:Rdr B w (.slice a len cap) k)(h0:0<=k)(D:k<=len)(hl:len<=65536)
  (aT:∀w0,Below w.heap.size w w0->Calls Tryz.prog 71 #[.pointer (some ⟨B,0,none⟩)] w0 fun e w'=>w0.grownBy w' (some B)/\e = .returned (evV x)/\Rdr B w' (.slice a len cap) next) :
  Calls Tryz.prog 105 #[.pointer (some ⟨B,0,none⟩),.func (.func 71) #[] #[]] w fun e w'=>e = .returned (.tuple #[evV x,.nilIface])/\Rdr B w' (.slice a len cap) next/\w.grownBy w' (some B):=by
 have hsf:=sfl;have hmf:∀(fn:Fn) (first cap:Array Value) (w:World),(Instr.makeFunc fn first cap).run Tryz.prog w = .ok (.func fn first cap) w:=fun _ _ _ _=>rfl;have jA:=yK w _ hr.1;have xA:Below w.heap.size w ((w.alloc (J (yv 0 0 0 0 0 0 0 0 ⟨#[]⟩ 0 0 0 0 0).toArray 89)).alloc (J #[.nilIface] 74)):=((Below.refl _ w).alloc ya _).alloc (by simp) _;have HR:=Q (hU hr xA jA);have HX:Hid (Bx ((w.alloc (J (yv 0 0 0 0 0 0 0 0 ⟨#[]⟩ 0 0 0 0 0).toArray 89)).alloc (J #[.nilIface] 74)) w.heap.size (yv 0 0 0 0 0 0 0 0 ⟨#[]⟩ 0 0 0 0 0)):=tryE_box w;have HY:Hid (Bx ((w.alloc (J (yv 0 0 0 0 0 0 0 0 ⟨#[]⟩ 0 0 0 0 0).toArray 89)).alloc (J #[.nilIface] 74)) (w.heap.size+1) [.nilIface]):=tryE_err w;have HZ:Hid (((w.alloc (J (yv 0 0 0 0 0 0 0 0 ⟨#[]⟩ 0 0 0 0 0).toArray 89)).alloc (J #[.nilIface] 74)).heap.size=w.heap.size+2):=by show _ = _;simp
 have HB:=Q xA;have HRd:=Q aT;clear hr aT xA;obtain⟨xl,⟨ck,cs,ct,cl,cq,ci,cp,cg⟩,id,xh,qty,xi,xg⟩:=x
 go_enter_defers Tryz.func105,Tryz.ntmps105
 go_wp2_with fail;generalize ((w.alloc (J (yv 0 0 0 0 0 0 0 0 ⟨#[]⟩ 0 0 0 0 0).toArray 89)).alloc (J #[.nilIface] 74))=W1 at HR HX HY HZ HB |-;refine(check_ok B k a len cap _ (Z HR) h0 D hl).mono ?_;rintro e w1 ⟨rfl,q,rfl⟩;go_wp2_with fail;refine(Z HRd _ (zp (Z HB) q)).mono ?_;rintro e w2 ⟨M,rfl,hr2⟩;have hz:=Z HZ;have hX:Bx w2 w.heap.size (yv 0 0 0 0 0 0 0 0 ⟨#[]⟩ 0 0 0 0 0):=zQ (fN (Z HX) q) (M.block w.heap.size (by show w.heap.size<W1.heap.size;omega) (by simp;omega));have hY:Bx w2 (w.heap.size+1) [.nilIface]:=zQ (fN (Z HY) q) (M.block (w.heap.size+1) (by show w.heap.size+1<W1.heap.size;omega) (by simp;omega));have HG:Hid (w.grownBy w2 (some B)):=zC (gk (Z HB) B) (zC (dZ W1 q _) M);have ji:=Q hr2;have kH:=Q hX;have HYY:=Q hY;have z0:=Y hX 0 rfl;have f0:=zc hX 0 (by decide);have z1:=Y hX 1 rfl;have f1:=zc hX 1 (by decide);have z2:=Y hX 2 rfl;have f2:=zc hX 2 (by decide);have z3:=Y hX 3 rfl;have f3:=zc hX 3 (by decide);have z4:=Y hX 4 rfl;have f4:=zc hX 4 (by decide);have z5:=Y hX 5 rfl;have f5:=zc hX 5 (by decide);have z6:=Y hX 6 rfl;have f6:=zc hX 6 (by decide);have z7:=Y hX 7 rfl;have f7:=zc hX 7 (by decide);have z8:=Y hX 8 rfl;have f8:=zc hX 8 (by decide);have z9:=Y hX 9 rfl;have f9:=zc hX 9 (by decide);have jv:=Y hX 10 rfl;have f10:=zc hX 10 (by decide);have jL:=Y hX 11 rfl;have cU:=zc hX 11 (by decide);have jZ:=Y hX 12 rfl;have f12:=zc hX 12 (by decide);have pA:=Y hX 13 rfl;have f13:=zc hX 13 (by decide);have ze:=Y hY 0 rfl;have fe:=zc hY 0 (by decide);unfold evV;simp only;clear M hr2 hX hY hz HX HY HR HB HZ HRd;go_wp2_with fail;rw[set14];have HXF0:=zk (us:=(yv xl ck cs ct cl cq ci cp cg id xh qty xi xg)) (Z kH) rfl;have xt:=Q (ej (j:=0) (u:=.nilIface) HXF0 (show w.heap.size≠w.heap.size+1 by omega));have kI:=Q (eh (j:=0) (u:=.nilIface) (bx_others (us:=(yv xl ck cs ct cl cq ci cp cg id xh qty xi xg)) (Z HYY) (show w.heap.size+1≠w.heap.size by omega)) (by decide));have kC:=Q (zC (iR (yv xl ck cs ct cl cq ci cp cg id xh qty xi xg) (Z HG) (Nat.le_refl w.heap.size)) (yR _ _));have HRF0:=iP (yv xl ck cs ct cl cq ci cp cg id xh qty xi xg) (Z ji) (show B≠w.heap.size by omega);have pR:=Q (rdr_grown HRF0 (eF _ ⟨w.heap.size+1,0,none⟩ .nilIface) (by show B≠w.heap.size+1;omega));have kC:=Q (gr_set1 (j:=0) (u:=.nilIface) (Z kC) (show w.heap.size<=w.heap.size+1 by omega));clear z0 f0 z1 f1 z2 f2 z3 f3 z4 f4 z5 f5 z6 f6 z7 f7 z8 f8 z9 f9 jv f10 jL cU jZ f12 pA f13 ze fe HXF0 HRF0 kH HYY HG ji;generalize (w2.setCells w.heap.size 0 (yv xl ck cs ct cl cq ci cp cg id xh qty xi xg)).setCell ⟨w.heap.size+1,0,none⟩ .nilIface=WF at xt kI kC pR |-;refine leaves_cons (f:=139) (args:=#[.pointer (some ⟨w.heap.size+1,0,none⟩)]) (by simp) (by simp[go_sem]) ?_;refine(catch_idleE ⟨w.heap.size+1,0,none⟩ _).mono ?_;rintro e u' w'' ⟨rfl,rfl,hw⟩;subst hw;obtain⟨d0,d1,d2,d3,d4,d5,d6,d7,d8,d9,jq,jG,jH,jI⟩:=yy (Z xt);have de:=Y (Z kI) 0 rfl;simp[Leaves,settle,results,Tryz.results105,go_sem,d0,d1,d2,d3,d4,d5,d6,d7,d8,d9,jq,jG,jH,jI,de];exact⟨rfl,Z pR,Z kC⟩
def zEv:Ev:=⟨0,⟨0,0,0,0,0,0,0,⟨#[]⟩⟩,0,0,0,0,0⟩
theorem tryE_fail (B:Nat)(a:Option Addr)(len cap:Nat)(k c:Int)(w:World)(hr:Rdr B w (.slice a len cap) k)(h0:0<=k)(D:k<=len)(hl:len<=65536)
  (aT:∀w0,Below w.heap.size w w0->Calls Tryz.prog 71 #[.pointer (some ⟨B,0,none⟩)] w0 fun e w'=>w0.grownBy w' (some B)/\∃p,e = .panicked (eE c p)) :
  Calls Tryz.prog 105 #[.pointer (some ⟨B,0,none⟩),.func (.func 71) #[] #[]] w fun e w'=>(∃p,e = .returned (.tuple #[evV zEv,dU c p]))/\w.grownBy w' (some B):=by
 have hsf:=sfl;have hmf:∀(fn:Fn) (first cap:Array Value) (w:World),(Instr.makeFunc fn first cap).run Tryz.prog w = .ok (.func fn first cap) w:=fun _ _ _ _=>rfl;have jA:=yK w _ hr.1;have xA:Below w.heap.size w ((w.alloc (J (yv 0 0 0 0 0 0 0 0 ⟨#[]⟩ 0 0 0 0 0).toArray 89)).alloc (J #[.nilIface] 74)):=((Below.refl _ w).alloc ya _).alloc (by simp) _;have HR:=Q (hU hr xA jA);have HX:Hid (Bx ((w.alloc (J (yv 0 0 0 0 0 0 0 0 ⟨#[]⟩ 0 0 0 0 0).toArray 89)).alloc (J #[.nilIface] 74)) w.heap.size (yv 0 0 0 0 0 0 0 0 ⟨#[]⟩ 0 0 0 0 0)):=tryE_box w;have HY:Hid (Bx ((w.alloc (J (yv 0 0 0 0 0 0 0 0 ⟨#[]⟩ 0 0 0 0 0).toArray 89)).alloc (J #[.nilIface] 74)) (w.heap.size+1) [.nilIface]):=tryE_err w;have HZ:Hid (((w.alloc (J (yv 0 0 0 0 0 0 0 0 ⟨#[]⟩ 0 0 0 0 0).toArray 89)).alloc (J #[.nilIface] 74)).heap.size=w.heap.size+2):=by show _ = _;simp
 have HB:=Q xA;have HRd:=Q aT;clear hr aT xA;unfold evV zEv;simp only
 go_enter_defers Tryz.func105,Tryz.ntmps105
 go_wp2_with fail;generalize ((w.alloc (J (yv 0 0 0 0 0 0 0 0 ⟨#[]⟩ 0 0 0 0 0).toArray 89)).alloc (J #[.nilIface] 74))=W1 at HR HX HY HZ HB |-;refine(check_ok B k a len cap _ (Z HR) h0 D hl).mono ?_;rintro e w1 ⟨rfl,q,rfl⟩;go_wp2_with fail;refine(Z HRd _ (zp (Z HB) q)).mono ?_;rintro e w2 ⟨M,p,rfl⟩;have hz:=Z HZ;have hX:Bx w2 w.heap.size (yv 0 0 0 0 0 0 0 0 ⟨#[]⟩ 0 0 0 0 0):=zQ (fN (Z HX) q) (M.block w.heap.size (by show w.heap.size<W1.heap.size;omega) (by simp;omega));have hY:Bx w2 (w.heap.size+1) [.nilIface]:=zQ (fN (Z HY) q) (M.block (w.heap.size+1) (by show w.heap.size+1<W1.heap.size;omega) (by simp;omega));have HG:Hid (w.grownBy w2 (some B)):=zC (gk (Z HB) B) (zC (dZ W1 q _) M);clear M;have xt:=ej (j:=0) (u:=dU c p) hX (show w.heap.size≠w.heap.size+1 by omega);have kI:=eh (j:=0) (u:=dU c p) hY (by decide);have kC:=Q (gr_set1 (j:=0) (u:=dU c p) (Z HG) (show w.heap.size<=w.heap.size+1 by omega));have hcE:=Y hY 0 rfl;have hfE:=zc hY 0 (by decide);clear HX HY HR HB HZ hz;go_wp2_with fail;refine leaves_cons (f:=139) (args:=#[.pointer (some ⟨w.heap.size+1,0,none⟩)]) (by simp) (by simp[go_sem]) ?_;refine(lM ⟨w.heap.size+1,0,none⟩ .nilIface c p [] _ hcE hfE).mono ?_;rintro e u' w'' ⟨rfl,rfl,hw⟩;rw[hw];clear hw;generalize w2.setCell ⟨w.heap.size+1,0,none⟩ (dU c p)=WF at xt kI kC |-;have d0:=Y xt 0 rfl;have d1:=Y xt 1 rfl;have d2:=Y xt 2 rfl;have d3:=Y xt 3 rfl;have d4:=Y xt 4 rfl;have d5:=Y xt 5 rfl;have d6:=Y xt 6 rfl;have d7:=Y xt 7 rfl;have d8:=Y xt 8 rfl;have d9:=Y xt 9 rfl;have jq:=Y xt 10 rfl;have jG:=Y xt 11 rfl;have jH:=Y xt 12 rfl;have jI:=Y xt 13 rfl;have de:=Y kI 0 rfl;simp[Leaves,settle,results,Tryz.results105,go_sem,d0,d1,d2,d3,d4,d5,d6,d7,d8,d9,jq,jG,jH,jI,de];exact⟨⟨p,rfl⟩,Z kC⟩
theorem tryE_check (B:Nat)(a:Option Addr)(len cap:Nat)(k c:Int)(w:World)(hr:Rdr B w (.slice a len cap) k)
  (hchk:∀w0,Rdr B w0 (.slice a len cap) k->Calls Tryz.prog 56 #[.pointer (some ⟨B,0,none⟩)] w0 fun e w'=>e = .panicked (eE c k)/\∃q,w'=w0.drewN q) :
  Calls Tryz.prog 105 #[.pointer (some ⟨B,0,none⟩),.func (.func 71) #[] #[]] w fun e w'=>(∃p,e = .returned (.tuple #[evV zEv,dU c p]))/\w.grownBy w' (some B):=by
 have hsf:=sfl;have hmf:∀(fn:Fn) (first cap:Array Value) (w:World),(Instr.makeFunc fn first cap).run Tryz.prog w = .ok (.func fn first cap) w:=fun _ _ _ _=>rfl;have jA:=yK w _ hr.1;have xA:Below w.heap.size w ((w.alloc (J (yv 0 0 0 0 0 0 0 0 ⟨#[]⟩ 0 0 0 0 0).toArray 89)).alloc (J #[.nilIface] 74)):=((Below.refl _ w).alloc ya _).alloc (by simp) _;have HR:=Q (hU hr xA jA);have HX:Hid (Bx ((w.alloc (J (yv 0 0 0 0 0 0 0 0 ⟨#[]⟩ 0 0 0 0 0).toArray 89)).alloc (J #[.nilIface] 74)) w.heap.size (yv 0 0 0 0 0 0 0 0 ⟨#[]⟩ 0 0 0 0 0)):=tryE_box w;have HY:Hid (Bx ((w.alloc (J (yv 0 0 0 0 0 0 0 0 ⟨#[]⟩ 0 0 0 0 0).toArray 89)).alloc (J #[.nilIface] 74)) (w.heap.size+1) [.nilIface]):=tryE_err w;have HZ:Hid (((w.alloc (J (yv 0 0 0 0 0 0 0 0 ⟨#[]⟩ 0 0 0 0 0).toArray 89)).alloc (J #[.nilIface] 74)).heap.size=w.heap.size+2):=by show _ = _;simp
 have HB:=Q xA;have HCk:=Q hchk;clear hr hchk xA;unfold evV zEv;simp only
 go_enter_defers Tryz.func105,Tryz.ntmps105
 go_wp2_with fail;generalize ((w.alloc (J (yv 0 0 0 0 0 0 0 0 ⟨#[]⟩ 0 0 0 0 0).toArray 89)).alloc (J #[.nilIface] 74))=W1 at HR HX HY HZ HB |-;refine(Z HCk _ (Z HR)).mono ?_;rintro e w2 ⟨rfl,q,ju⟩;have M:(W1.drewN q).grownBy w2 (some B):=by rw[ju];exact yR _ _
 clear ju;have hz:=Z HZ;have hX:Bx w2 w.heap.size (yv 0 0 0 0 0 0 0 0 ⟨#[]⟩ 0 0 0 0 0):=zQ (fN (Z HX) q) (M.block w.heap.size (by show w.heap.size<W1.heap.size;omega) (by simp;omega));have hY:Bx w2 (w.heap.size+1) [.nilIface]:=zQ (fN (Z HY) q) (M.block (w.heap.size+1) (by show w.heap.size+1<W1.heap.size;omega) (by simp;omega));have HG:Hid (w.grownBy w2 (some B)):=zC (gk (Z HB) B) (zC (dZ W1 q _) M);clear M;have xt:=ej (j:=0) (u:=dU c k) hX (show w.heap.size≠w.heap.size+1 by omega);have kI:=eh (j:=0) (u:=dU c k) hY (by decide);have kC:=Q (gr_set1 (j:=0) (u:=dU c k) (Z HG) (show w.heap.size<=w.heap.size+1 by omega));have hcE:=Y hY 0 rfl;have hfE:=zc hY 0 (by decide);clear HX HY HR HB HZ hz;go_wp2_with fail;refine leaves_cons (f:=139) (args:=#[.pointer (some ⟨w.heap.size+1,0,none⟩)]) (by simp) (by simp[go_sem]) ?_;refine(lM ⟨w.heap.size+1,0,none⟩ .nilIface c k [] _ hcE hfE).mono ?_;rintro e u' w'' ⟨rfl,rfl,hw⟩;rw[hw];clear hw;generalize w2.setCell ⟨w.heap.size+1,0,none⟩ (dU c k)=WF at xt kI kC |-;have d0:=Y xt 0 rfl;have d1:=Y xt 1 rfl;have d2:=Y xt 2 rfl;have d3:=Y xt 3 rfl;have d4:=Y xt 4 rfl;have d5:=Y xt 5 rfl;have d6:=Y xt 6 rfl;have d7:=Y xt 7 rfl;have d8:=Y xt 8 rfl;have d9:=Y xt 9 rfl;have jq:=Y xt 10 rfl;have jG:=Y xt 11 rfl;have jH:=Y xt 12 rfl;have jI:=Y xt 13 rfl;have de:=Y kI 0 rfl;simp[Leaves,settle,results,Tryz.results105,go_sem,d0,d1,d2,d3,d4,d5,d6,d7,d8,d9,jq,jG,jH,jI,de];exact⟨⟨k,rfl⟩,Z kC⟩
def evR (l:List Int)(at_:Int):Ev × Int × Int:=
 if 65536<l.length then(zEv,0,2) else if at_ < 0\/(l.length:Int)<at_ then(zEv,0,5)
 else match evA l at_.toNat with|some (x,n)=>(x,(n:Int),0)|none=>(zEv,0,3)
def tupE (x:Ev)(y:Int × Int):Value:=.tuple #[evV x,H y.1,H y.2]
theorem evR_long {l:List Int}{k:Int}(h:65536<l.length):evR l k=(zEv,0,2):=by unfold evR;rw[if_pos h]
theorem evR_out {l:List Int}{k:Int}(h:¬ 65536<l.length)(D:k<0\/(l.length:Int)<k):evR l k=(zEv,0,5):=by unfold evR;rw[if_neg h,if_pos D]
theorem evR_some {l:List Int}{k:Nat}{x:Ev}{n:Nat}(h:¬ 65536<l.length)(D:k<=l.length)(M:evA l k=some (x,n)):evR l k=(x,(n:Int),0):=by
 unfold evR;rw[if_neg h,if_neg (by omega),Int.toNat_natCast,M]
theorem evR_none {l:List Int}{k:Nat}(h:¬ 65536<l.length)(D:k<=l.length)(M:evA l k=none):evR l k=(zEv,0,3):=by
 unfold evR;rw[if_neg h,if_neg (by omega),Int.toNat_natCast,M]
theorem rdE_box (w:World)(v:Value)(at_:Int):Bx ((w.alloc (J (yv 0 0 0 0 0 0 0 0 ⟨#[]⟩ 0 0 0 0 0).toArray 89)).alloc (J #[v,H at_] 72)) w.heap.size (yv 0 0 0 0 0 0 0 0 ⟨#[]⟩ 0 0 0 0 0)/\Rdr (w.heap.size+1) ((w.alloc (J (yv 0 0 0 0 0 0 0 0 ⟨#[]⟩ 0 0 0 0 0).toArray 89)).alloc (J #[v,H at_] 72)) v at_/\yn w ((w.alloc (J (yv 0 0 0 0 0 0 0 0 ⟨#[]⟩ 0 0 0 0 0).toArray 89)).alloc (J #[v,H at_] 72))/\((w.alloc (J (yv 0 0 0 0 0 0 0 0 ⟨#[]⟩ 0 0 0 0 0).toArray 89)).alloc (J #[v,H at_] 72)).heap.size=w.heap.size+2:=by
 have hs:(w.alloc (J (yv 0 0 0 0 0 0 0 0 ⟨#[]⟩ 0 0 0 0 0).toArray 89)).heap.size=w.heap.size+1:=by simp
 refine⟨zf (zj w (yv 0 0 0 0 0 0 0 0 ⟨#[]⟩ 0 0 0 0 0) 89) ((Below.refl (w.heap.size+1) _).alloc (by simp) _) (by omega),?_,((Below.refl _ w).alloc ya _).alloc (by simp) _,by simp⟩;have h:=rdr_new (w.alloc (J (yv 0 0 0 0 0 0 0 0 ⟨#[]⟩ 0 0 0 0 0).toArray 89)) v at_;rwa[hs] at h
theorem readE_fine (v:Value)(len:Nat)(a:Option Addr)(cap:Nat)(hv:v = .slice a len cap)(at_:Int)(x:Ev)(next:Int)(w:World)
  (htry:∀w0,w0=((w.alloc (J (yv 0 0 0 0 0 0 0 0 ⟨#[]⟩ 0 0 0 0 0).toArray 89)).alloc (J #[v,H at_] 72))->Calls Tryz.prog 105 #[.pointer (some ⟨w.heap.size+1,0,none⟩),.func (.func 71) #[] #[]] w0 fun e w'=>e = .returned (.tuple #[evV x,.nilIface])/\Rdr (w.heap.size+1) w' v next/\w0.grownBy w' (some (w.heap.size+1))) :
  Calls Tryz.prog 70 #[v,H at_,.func (.func 71) #[] #[]] w fun e w'=>e = .returned (tupE x (next,0))/\yn w w':=by
 have hsf:=sfl;obtain⟨hX,hR,hB,hZ⟩:=rdE_box w v at_;have HT:=Q (htry _ rfl);subst hv;have HX:=Q hX;have HB:=Q hB;have HZ:=Q hZ;clear htry hX hR hB hZ;obtain⟨xl,⟨ck,cs,ct,cl,cq,ci,cp,cg⟩,id,xh,qty,xi,xg⟩:=x;go_enter Tryz.func70,Tryz.ntmps70;go_wp2_with fail;generalize ((w.alloc (J (yv 0 0 0 0 0 0 0 0 ⟨#[]⟩ 0 0 0 0 0).toArray 89)).alloc (J #[.slice a len cap,H at_] 72))=W0 at HT HX HB HZ |-;refine(Z HT).mono ?_;rintro e W1 ⟨rfl,hr,M⟩;have hz:=Z HZ;have ud:=Q ((Z HB).trans (gr_below M (show w.heap.size<=w.heap.size+1 by omega) (by omega)));have hX1:=zQ (Z HX) (M.block w.heap.size (by omega) (by simp));have uw:w.heap.size+2<=W1.heap.size:=by have:=M.size;omega
 have jB:=lT W1 (J (yv xl ck cs ct cl cq ci cp cg id xh qty xi xg).toArray 89);have oI:Hid (Bx (W1.alloc (J (yv xl ck cs ct cl cq ci cp cg id xh qty xi xg).toArray 89)) W1.heap.size (yv xl ck cs ct cl cq ci cp cg id xh qty xi xg)):=zj W1 (yv xl ck cs ct cl cq ci cp cg id xh qty xi xg) 89;have xF:=Q (zf hX1 jB (by omega));have hr2:=hU hr jB (by omega);have xq:=Q ((Z ud).trans (jB.mono (by omega)));unfold evV;simp only;clear M HX HB HZ hz hX1 jB ud hr HT;go_wp2_with fail;generalize (W1.alloc (J (yv xl ck cs ct cl cq ci cp cg id xh qty xi xg).toArray 89))=W2 at oI xF hr2 xq |-;obtain⟨c1,c2,c3⟩:=hr2;obtain⟨x0,x1,x2,x3,x4,x5,x6,x7,x8,x9,x10,x11,x12,x13⟩:=yy (Z oI);have z0:=Y (Z xF) 0 rfl;have bi:=zc (Z xF) 0 (by decide);have z1:=Y (Z xF) 1 rfl;have bj:=zc (Z xF) 1 (by decide);have z2:=Y (Z xF) 2 rfl;have bm:=zc (Z xF) 2 (by decide);have z3:=Y (Z xF) 3 rfl;have bo:=zc (Z xF) 3 (by decide);have z4:=Y (Z xF) 4 rfl;have cV:=zc (Z xF) 4 (by decide);have z5:=Y (Z xF) 5 rfl;have cW:=zc (Z xF) 5 (by decide);have z6:=Y (Z xF) 6 rfl;have cX:=zc (Z xF) 6 (by decide);have z7:=Y (Z xF) 7 rfl;have cY:=zc (Z xF) 7 (by decide);have z8:=Y (Z xF) 8 rfl;have cZ:=zc (Z xF) 8 (by decide);have z9:=Y (Z xF) 9 rfl;have dc:=zc (Z xF) 9 (by decide);have jv:=Y (Z xF) 10 rfl;have kj:=zc (Z xF) 10 (by decide);have jL:=Y (Z xF) 11 rfl;have km:=zc (Z xF) 11 (by decide);have jZ:=Y (Z xF) 12 rfl;have kn:=zc (Z xF) 12 (by decide);have pA:=Y (Z xF) 13 rfl;have pT:=zc (Z xF) 13 (by decide);have xt:=Q (zk (us:=(yv xl ck cs ct cl cq ci cp cg id xh qty xi xg)) (Z xF) rfl);have vB:=Q (zg w.heap.size ya (yv xl ck cs ct cl cq ci cp cg id xh qty xi xg) 0 W2 (Z xq));clear oI xF xq
 go_region_with (fail)
 all_goals try go_wp2_with fail
 all_goals
  rw[set14];generalize (W2.setCells w.heap.size 0 (yv xl ck cs ct cl cq ci cp cg id xh qty xi xg))=WF at xt vB |-;obtain⟨d0,d1,d2,d3,d4,d5,d6,d7,d8,d9,jq,jG,jH,jI⟩:=yy (zm (Z xt));refine bodyPost_ret (v:=tupE ⟨xl,⟨ck,cs,ct,cl,cq,ci,cp,cg⟩,id,xh,qty,xi,xg⟩ (next,0)) ?_ rfl ⟨rfl,(Z vB).drew⟩;simp[results,Tryz.f70,go_sem,d0,d1,d2,d3,d4,d5,d6,d7,d8,d9,jq,jG,jH,jI,tupE,evV]
theorem lH (v:Value)(len:Nat)(a:Option Addr)(cap:Nat)(hv:v = .slice a len cap)(at_ c:Int)(w:World)(hE:ErrT w)
  (htry:∀w0,w0=((w.alloc (J (yv 0 0 0 0 0 0 0 0 ⟨#[]⟩ 0 0 0 0 0).toArray 89)).alloc (J #[v,H at_] 72))->Calls Tryz.prog 105 #[.pointer (some ⟨w.heap.size+1,0,none⟩),.func (.func 71) #[] #[]] w0 fun e w'=>(∃p,e = .returned (.tuple #[evV zEv,dU c p]))/\w0.grownBy w' (some (w.heap.size+1))) :
  Calls Tryz.prog 70 #[v,H at_,.func (.func 71) #[] #[]] w fun e w'=>e = .returned (tupE zEv (0,c))/\yn w w':=by
 have hsf:=sfl;obtain⟨hX,hR,hB,hZ⟩:=rdE_box w v at_;have HT:=Q (htry _ rfl);subst hv;have HX:=Q hX;have HB:=Q hB;have HZ:=Q hZ;have HE:=Q hE;clear htry hX hR hB hZ hE;go_enter Tryz.func70,Tryz.ntmps70;go_wp2_with fail;generalize ((w.alloc (J (yv 0 0 0 0 0 0 0 0 ⟨#[]⟩ 0 0 0 0 0).toArray 89)).alloc (J #[.slice a len cap,H at_] 72))=W0 at HT HX HB HZ |-;refine(Z HT).mono ?_;rintro e W1 ⟨⟨p,rfl⟩,M⟩;have hz:=Z HZ;have xR:=(Z HB).trans (gr_below M (show w.heap.size<=w.heap.size+1 by omega) (by omega));have hX1:=zQ (Z HX) (M.block w.heap.size (by omega) (by simp));have uw:w.heap.size+2<=W1.heap.size:=by have:=M.size;omega
 have jB:=lT W1 (J (yv 0 0 0 0 0 0 0 0 ⟨#[]⟩ 0 0 0 0 0).toArray 89);have uC:(W1.alloc (J (yv 0 0 0 0 0 0 0 0 ⟨#[]⟩ 0 0 0 0 0).toArray 89)).heap.size=W1.heap.size+1:=by simp
 have hbb:Below (W1.heap.size+1) (W1.alloc (J (yv 0 0 0 0 0 0 0 0 ⟨#[]⟩ 0 0 0 0 0).toArray 89)) ((W1.alloc (J (yv 0 0 0 0 0 0 0 0 ⟨#[]⟩ 0 0 0 0 0).toArray 89)).alloc (J (yv 0 0 0 0 0 0 0 0 ⟨#[]⟩ 0 0 0 0 0).toArray 89)):=(Below.refl _ _).alloc (by omega) _
 have oJ:Hid (Bx ((W1.alloc (J (yv 0 0 0 0 0 0 0 0 ⟨#[]⟩ 0 0 0 0 0).toArray 89)).alloc (J (yv 0 0 0 0 0 0 0 0 ⟨#[]⟩ 0 0 0 0 0).toArray 89)) (W1.heap.size+1) (yv 0 0 0 0 0 0 0 0 ⟨#[]⟩ 0 0 0 0 0)):=by
  have h:=zj (W1.alloc (J (yv 0 0 0 0 0 0 0 0 ⟨#[]⟩ 0 0 0 0 0).toArray 89)) (yv 0 0 0 0 0 0 0 0 ⟨#[]⟩ 0 0 0 0 0) 89;rw[uC] at h;exact h
 have uz:=Q (zf (zf hX1 jB (by omega)) hbb (by omega));have xZ:=Q ((xR.trans (jB.mono (by omega))).trans (hbb.mono (by omega)));have HZ3:Hid (((W1.alloc (J (yv 0 0 0 0 0 0 0 0 ⟨#[]⟩ 0 0 0 0 0).toArray 89)).alloc (J (yv 0 0 0 0 0 0 0 0 ⟨#[]⟩ 0 0 0 0 0).toArray 89)).heap.size=W1.heap.size+2):=by show _ = _;simp
 have HE3:=Q (zY (Z HE) (Z xZ) ya);unfold evV zEv dU;simp only;clear M HX HB HZ hz hX1 jB hbb xR HT uC;go_wp2_with fail;generalize ((W1.alloc (J (yv 0 0 0 0 0 0 0 0 ⟨#[]⟩ 0 0 0 0 0).toArray 89)).alloc (J (yv 0 0 0 0 0 0 0 0 ⟨#[]⟩ 0 0 0 0 0).toArray 89))=W2 at oJ uz xZ HZ3 HE3 |-;obtain⟨y0,y1,y2,y3,y4,y5,y6,y7,y8,y9,y10,y11,y12,y13⟩:=yy (Z oJ)
 have uF:Hid (Calls Tryz.prog 37 #[.iface 107 (.agg #[H c,H p])] W2.drew fun e w3=>e = .returned (H c)/\Bx w3 (W1.heap.size+1) (yv 0 0 0 0 0 0 0 0 ⟨#[]⟩ 0 0 0 0 0)/\Bx w3 w.heap.size (yv 0 0 0 0 0 0 0 0 ⟨#[]⟩ 0 0 0 0 0)/\yn w w3):=by
  refine(codeOf_any c p W2.drew (Z HE3)).mono ?_;rintro e w3 ⟨rfl,xN⟩;have hzz:W2.drew.heap.size=W1.heap.size+2:=Z HZ3;exact⟨rfl,zf (zm (Z oJ)) xN (by omega),zf (zm (Z uz)) xN (by omega),(Z xZ).drew.trans (xN.mono (Z xZ).drew.size)⟩
 go_region_with (go_at_call 37;refine(Z uF).mono ?_;rintro e w3 ⟨rfl,hN,hQ,hQB⟩;have HQ:=Q hQ;have HQB:=Q hQB;have g0:=Y (hN) 0 rfl;have g1:=Y (hN) 1 rfl;have g2:=Y (hN) 2 rfl;have g3:=Y (hN) 3 rfl;have g4:=Y (hN) 4 rfl;have g5:=Y (hN) 5 rfl;have g6:=Y (hN) 6 rfl;have g7:=Y (hN) 7 rfl;have g8:=Y (hN) 8 rfl;have g9:=Y (hN) 9 rfl;have oi:=Y (hN) 10 rfl;have jU:=Y (hN) 11 rfl;have qh:=Y (hN) 12 rfl;have oZ:=Y (hN) 13 rfl;have z0:=Y (hQ) 0 rfl;have bi:=zc (hQ) 0 (by decide);have z1:=Y (hQ) 1 rfl;have bj:=zc (hQ) 1 (by decide);have z2:=Y (hQ) 2 rfl;have bm:=zc (hQ) 2 (by decide);have z3:=Y (hQ) 3 rfl;have bo:=zc (hQ) 3 (by decide);have z4:=Y (hQ) 4 rfl;have cV:=zc (hQ) 4 (by decide);have z5:=Y (hQ) 5 rfl;have cW:=zc (hQ) 5 (by decide);have z6:=Y (hQ) 6 rfl;have cX:=zc (hQ) 6 (by decide);have z7:=Y (hQ) 7 rfl;have cY:=zc (hQ) 7 (by decide);have z8:=Y (hQ) 8 rfl;have cZ:=zc (hQ) 8 (by decide);have z9:=Y (hQ) 9 rfl;have dc:=zc (hQ) 9 (by decide);have jv:=Y (hQ) 10 rfl;have kj:=zc (hQ) 10 (by decide);have jL:=Y (hQ) 11 rfl;have km:=zc (hQ) 11 (by decide);have jZ:=Y (hQ) 12 rfl;have kn:=zc (hQ) 12 (by decide);have pA:=Y (hQ) 13 rfl;have pT:=zc (hQ) 13 (by decide);clear hN hQ hQB)
 all_goals try go_wp2_with fail
 all_goals
  rw[set14];have xt:=Q (zk (us:=(yv 0 0 0 0 0 0 0 0 ⟨#[]⟩ 0 0 0 0 0)) (Z HQ) rfl);have vB:=Q (zg w.heap.size ya (yv 0 0 0 0 0 0 0 0 ⟨#[]⟩ 0 0 0 0 0) 0 w3 (Z HQB));generalize (w3.setCells w.heap.size 0 (yv 0 0 0 0 0 0 0 0 ⟨#[]⟩ 0 0 0 0 0))=WF at xt vB |-;obtain⟨d0,d1,d2,d3,d4,d5,d6,d7,d8,d9,jq,jG,jH,jI⟩:=yy (Z xt);refine bodyPost_ret (v:=tupE zEv (0,c)) ?_ rfl ⟨rfl,Z vB⟩;simp[results,Tryz.f70,go_sem,d0,d1,d2,d3,d4,d5,d6,d7,d8,d9,jq,jG,jH,jI,tupE,evV,zEv]
theorem readE_any (v:Value)(l:List Int)(at_:Int)(w:World)(xU:Rd w v l)(xC:dR v)(A:Bts l)(hE:ErrT w) :
  Calls Tryz.prog 70 #[v,H at_,.func (.func 71) #[] #[]] w fun e w'=>e = .returned (tupE (evR l at_).1 (evR l at_).2)/\yn w w':=by
 obtain⟨a,cap,hv⟩:=eb xU
 by_cases D:65536<l.length
 ·rw[evR_long D];refine lH v l.length a cap hv at_ 2 w hE fun w0 hw0=>?_;subst hw0;have hr:=(rdE_box w v at_).2.1;subst hv;exact tryE_check (w.heap.size+1) a l.length cap at_ 2 _ hr fun w0 h=>check_long _ at_ a l.length cap w0 h D
 by_cases E:at_ < 0\/(l.length:Int)<at_
 ·rw[evR_out D E];refine lH v l.length a cap hv at_ 5 w hE fun w0 hw0=>?_;subst hw0;have hr:=(rdE_box w v at_).2.1;subst hv;exact tryE_check (w.heap.size+1) a l.length cap at_ 5 _ hr fun w0 h=>check_out _ at_ a l.length cap w0 h E (by omega)
 obtain⟨k,rfl⟩:=Int.eq_ofNat_of_zero_le (show 0<=at_ by omega);have X:k<=l.length:=by omega
 obtain⟨_,hr,xk,hz⟩:=rdE_box w v (k:Int)
 have hev:∀w0,Below (w.heap.size+2) ((w.alloc (J (yv 0 0 0 0 0 0 0 0 ⟨#[]⟩ 0 0 0 0 0).toArray 89)).alloc (J #[v,H (k:Int)] 72)) w0->Calls Tryz.prog 71 #[.pointer (some ⟨w.heap.size+1,0,none⟩)] w0 fun e w'=>EvEnd (w.heap.size+1) v w0 (evA l k) e w':=fun w0 xA =>
  event_any w (w.heap.size+1) v l k w0 ⟨xU,xC,Nat.le_succ _,xk.trans (xA.mono (by omega)),hU hr xA (by omega),X,by omega,A⟩
 cases M:evA l k with
 | none =>
  rw[evR_none D X M];refine lH v l.length a cap hv k 3 w hE fun w0 hw0=>?_;subst hw0;rw[M] at hev;subst hv;exact tryE_fail (w.heap.size+1) a l.length cap k 3 _ hr (by omega) (by omega) (by omega) fun w0 h=>(hev w0 (by rw[hz] at h;exact h)).mono fun e w' h=>⟨h.1,h.2.2 rfl⟩
 | some r =>
  obtain⟨x,n⟩:=r;rw[evR_some D X M];refine readE_fine v l.length a cap hv k x n w fun w0 hw0=>?_;subst hw0;rw[M] at hev;subst hv;exact tryE_ok (w.heap.size+1) a l.length cap k x n _ hr (by omega) (by omega) (by omega) fun w0 h=>(hev w0 (by rw[hz] at h;exact h)).mono fun e w' h=>⟨h.1,(h.2.1 x n rfl).1,(h.2.1 x n rfl).2⟩
theorem implDecode_any (v:Value)(l:List Int)(at_:Int)(w:World)(xU:Rd w v l)(xC:dR v)(A:Bts l)(hE:ErrT w) :
  Calls Tryz.prog 45 #[v,H at_] w fun e w'=>e = .returned (tupE (evR l at_).1 (evR l at_).2)/\yn w w':=by
 have hsf:=sfl;have jB:=lT w (J (yv 0 0 0 0 0 0 0 0 ⟨#[]⟩ 0 0 0 0 0).toArray 89);have HR:=Q (readE_any v l at_ _ (zN xU jB ya) xC A (zY hE jB ya));have HB:=Q jB;have HX:Hid (Bx (w.alloc (J (yv 0 0 0 0 0 0 0 0 ⟨#[]⟩ 0 0 0 0 0).toArray 89)) w.heap.size (yv 0 0 0 0 0 0 0 0 ⟨#[]⟩ 0 0 0 0 0)):=zj w (yv 0 0 0 0 0 0 0 0 ⟨#[]⟩ 0 0 0 0 0) 89;have HZ:Hid ((w.alloc (J (yv 0 0 0 0 0 0 0 0 ⟨#[]⟩ 0 0 0 0 0).toArray 89)).heap.size=w.heap.size+1):=by show _ = _;simp
 obtain⟨a,cap,rfl⟩:=eb xU;clear xU xC A hE jB;generalize evR l at_ = r at *;obtain⟨⟨xl,⟨ck,cs,ct,cl,cq,ci,cp,cg⟩,id,xh,qty,xi,xg⟩,r2,r3⟩:=r;go_enter Tryz.func45,Tryz.ntmps45;go_wp2_with fail;generalize (w.alloc (J (yv 0 0 0 0 0 0 0 0 ⟨#[]⟩ 0 0 0 0 0).toArray 89))=W0 at HR HB HX HZ |-;refine(Z HR).mono ?_;rintro e W1 ⟨rfl,xR⟩;have hX:=zf (Z HX) xR (by rw[Z HZ];omega);have kH:=Q hX;have ud:=Q (lW (Z HB) xR);have z0:=Y hX 0 rfl;have f0:=zc hX 0 (by decide);have z1:=Y hX 1 rfl;have f1:=zc hX 1 (by decide);have z2:=Y hX 2 rfl;have f2:=zc hX 2 (by decide);have z3:=Y hX 3 rfl;have f3:=zc hX 3 (by decide);have z4:=Y hX 4 rfl;have f4:=zc hX 4 (by decide);have z5:=Y hX 5 rfl;have f5:=zc hX 5 (by decide);have z6:=Y hX 6 rfl;have f6:=zc hX 6 (by decide);have z7:=Y hX 7 rfl;have f7:=zc hX 7 (by decide);have z8:=Y hX 8 rfl;have f8:=zc hX 8 (by decide);have z9:=Y hX 9 rfl;have f9:=zc hX 9 (by decide);have jv:=Y hX 10 rfl;have f10:=zc hX 10 (by decide);have jL:=Y hX 11 rfl;have cU:=zc hX 11 (by decide);have jZ:=Y hX 12 rfl;have f12:=zc hX 12 (by decide);have pA:=Y hX 13 rfl;have f13:=zc hX 13 (by decide);unfold tupE evV;simp only;clear xR hX HR HX HZ;go_wp2_with fail;rw[set14];have xt:=Q (zk (us:=(yv xl ck cs ct cl cq ci cp cg id xh qty xi xg)) (Z kH) rfl);have vB:=Q (zg w.heap.size ya (yv xl ck cs ct cl cq ci cp cg id xh qty xi xg) 0 W1 (Z ud));clear z0 f0 z1 f1 z2 f2 z3 f3 z4 f4 z5 f5 z6 f6 z7 f7 z8 f8 z9 f9 jv f10 jL cU jZ f12 pA f13 kH ud;generalize (W1.setCells w.heap.size 0 (yv xl ck cs ct cl cq ci cp cg id xh qty xi xg))=WF at xt vB |-;obtain⟨d0,d1,d2,d3,d4,d5,d6,d7,d8,d9,jq,jG,jH,jI⟩:=yy (Z xt);refine bodyPost_ret (v:=tupE ⟨xl,⟨ck,cs,ct,cl,cq,ci,cp,cg⟩,id,xh,qty,xi,xg⟩ (r2,r3)) ?_ rfl ⟨rfl,Z vB⟩;simp[results,Tryz.f45,go_sem,d0,d1,d2,d3,d4,d5,d6,d7,d8,d9,jq,jG,jH,jI,tupE,evV]



theorem toldCmd_all (e:Ev)(w:World):Calls Tryz.prog 74 #[evV e] w fun r w'=>r=ym (.tuple #[cmV (zV e),.bool (zR e.kind)])/\yn w w':=by
 have hsf:=sfl;obtain⟨xl,⟨ck,cs,ct,cl,cq,ci,cp,cg⟩,id,xh,qty,xi,xg⟩:=e;unfold evV zV cmV zCm zR;simp only
 by_cases X:xl=1\/xl=2\/xl=6\/xl=7\/xl=8
 ·rcases X with rfl|rfl|rfl|rfl|rfl
  all_goals
   simp;go_enter Tryz.func74,Tryz.ntmps74;go_wp2_with fail;go_returns;exact⟨rfl,by go_grown⟩
 ·have D:(xl==1)=false:=by simp;omega
  have E:(xl==2)=false:=by simp;omega
  have h6:(xl==6)=false:=by simp;omega
  have h7:(xl==7)=false:=by simp;omega
  have h8:(xl==8)=false:=by simp;omega
  rw[if_neg (by omega),if_neg (by omega),if_neg (by omega),if_neg (by omega),if_neg (by omega),D,E,h6,h7,h8];clear X;simp;go_enter Tryz.func74,Tryz.ntmps74;go_wp2_with fail;go_returns;exact⟨rfl,by go_grown⟩
theorem toldCmd_any (e:Ev)(w:World)(X:1<=e.kind/\e.kind<=9):Calls Tryz.prog 74 #[evV e] w fun r w'=>r=ym (.tuple #[cmV (zV e),.bool (zR e.kind)])/\yn w w':=toldCmd_all e w
end Go.Proofs.YtbghmldggahjiaaGreatDoor
