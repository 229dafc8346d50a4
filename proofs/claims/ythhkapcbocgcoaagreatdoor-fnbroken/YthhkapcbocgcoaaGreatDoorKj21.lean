/-.-/
import Derived.Test.YthhkapcbocgcoaaGreatDoorKj10
import Derived.Test.YthhkapcbocgcoaaGreatDoorKj12
import Derived.Test.YthhkapcbocgcoaaGreatDoorKj20
set_option linter.unusedVariables false
set_option maxHeartbeats 6400000
set_option maxRecDepth 100000
namespace Go.Proofs.YthhkapcbocgcoaaGreatDoor
open Go.RowKit
structure Du where
 kind:Int
 id:Int
 other:Int
 qty:Int
 price:Int
def zDu:Du:=⟨0,0,0,0,0⟩
def duV (d:Du):Value:=.agg #[H d.kind,H d.id,H d.other,H d.qty,H d.price]
structure Gr where
 nx:Int
 l:List Od
 bg:Int
 cm:Cm
 tk:Od
def isDy (o:Od):Bool:=o.life==1
def lftD (c:Cm)(t:Od):Du:=if dT c.t=true then⟨4,t.id,0,t.left,0⟩ else⟨5,t.id,0,t.left,0⟩
def takD (l:List Od)(c:Cm)(t:Od):Du:=
 if t.left=0 then zDu else match dZ l (othS c.s) with
 | some o=>if eB c o=true then⟨3,t.id,o.id,min t.left o.left,o.ticks⟩ else lftD c t
 | none=>lftD c t
def dayD (l:List Od):Du:=match l.find? isDy with
 | some o=>⟨9,o.id,0,o.left,0⟩
 | none=>zDu
def dueG (g:Gr):Du:=if g.bg=1 then takD g.l g.cm g.tk else if g.bg=8 then dayD g.l else zDu
def ed (e:Ev)(d:Du):Bool:=(e.kind==d.kind)&&((e.id==d.id)&&(e.qty==d.qty))
def leftAt (l:List Od)(id:Int):Int:=match l[(plc l id).toNat]? with|some o=>o.left|none=>0
def dW (g:Gr)(e:Ev):Int:=if g.bg≠0 then 3 else if refR g.nx g.l (dV e)≠0 then 5 else 0
def dueR (g:Gr)(e:Ev):Int:=if g.bg=0 then 3 else if (dueG g).kind=0 then 8 else if ((dueG g).kind=9\/e.kind=9)/\ed e (dueG g)=false then 14 else 0
def trR (d:Du)(e:Ev):Int:=if ¬ (d.kind=3/\e.id=d.id) then 9 else if e.other≠d.other then 10 else if e.price≠d.price then 11 else if e.qty≠d.qty then 12 else 0
def zE (g:Gr)(e:Ev):Int:=
 if e.kind=1 then(if dW g e≠0 then dW g e else if e.id=g.nx then 0 else 6)
 else if e.kind=2 then(if g.bg≠0 then 3 else if refR g.nx g.l e.cmd≠0/\refR g.nx g.l e.cmd=e.reason then 0 else 4)
 else if e.kind=6 then(if dW g e≠0 then dW g e else if e.qty=leftAt g.l e.id then 0 else 7)
 else if e.kind=7 then dW g e
 else if e.kind=8 then(if dW g e≠0 then dW g e else if e.qty=((g.l.filter isDy).length:Int) then 0 else 7)
 else if dueR g e≠0 then dueR g e
 else if e.kind=3 then trR (dueG g) e
 else if e.kind=9 then 0
 else if ed e (dueG g)=true then 0 else 13
def hitI (l:List Od)(id qty:Int):List Od:=match l[(plc l id).toNat]? with|some o=>dR l (plc l id).toNat o qty|none=>l
def setI (l:List Od)(id qty:Int):List Od:=match l[(plc l id).toNat]? with|some o=>l.set (plc l id).toNat { o with left:=qty } | none=>l
def begG (g:Gr)(e:Ev):Int:=if g.bg=0 then e.kind else g.bg
def dQ (g:Gr)(e:Ev):Gr:=
 if e.kind=1 then⟨g.nx+1,g.l,begG g e,e.cmd,ordO e.cmd e.id⟩
 else if e.kind=3 then⟨g.nx,hitI g.l e.other e.qty,begG g e,g.cm,{ g.tk with left:=g.tk.left-e.qty }⟩
 else if e.kind=4 then⟨g.nx,g.l ++ [g.tk],begG g e,g.cm,{ g.tk with left:=0 }⟩
 else if e.kind=5 then⟨g.nx,g.l,begG g e,g.cm,{ g.tk with left:=0 }⟩
 else if e.kind=6 then⟨g.nx,hitI g.l e.id e.qty,begG g e,g.cm,g.tk⟩
 else if e.kind=7 then⟨g.nx,setI g.l e.id e.qty,begG g e,g.cm,g.tk⟩
 else if e.kind=9 then⟨g.nx,hitI g.l (dueG g).id (dueG g).qty,begG g e,g.cm,g.tk⟩
 else⟨g.nx,g.l,begG g e,g.cm,g.tk⟩
theorem step1 {g:Gr}{e:Ev}(k:e.kind=1):dQ g e=⟨g.nx+1,g.l,begG g e,e.cmd,ordO e.cmd e.id⟩:=by simp[dQ,k]
theorem step2 {g:Gr}{e:Ev}(k:e.kind=2):dQ g e=⟨g.nx,g.l,begG g e,g.cm,g.tk⟩:=by simp[dQ,k]
theorem step3 {g:Gr}{e:Ev}(k:e.kind=3):dQ g e=⟨g.nx,hitI g.l e.other e.qty,begG g e,g.cm,{ g.tk with left:=g.tk.left-e.qty }⟩:=by simp[dQ,k]
theorem step4 {g:Gr}{e:Ev}(k:e.kind=4):dQ g e=⟨g.nx,g.l ++ [g.tk],begG g e,g.cm,{ g.tk with left:=0 }⟩:=by simp[dQ,k]
theorem step5 {g:Gr}{e:Ev}(k:e.kind=5):dQ g e=⟨g.nx,g.l,begG g e,g.cm,{ g.tk with left:=0 }⟩:=by simp[dQ,k]
theorem step6 {g:Gr}{e:Ev}(k:e.kind=6):dQ g e=⟨g.nx,hitI g.l e.id e.qty,begG g e,g.cm,g.tk⟩:=by simp[dQ,k]
theorem step7 {g:Gr}{e:Ev}(k:e.kind=7):dQ g e=⟨g.nx,setI g.l e.id e.qty,begG g e,g.cm,g.tk⟩:=by simp[dQ,k]
theorem step8 {g:Gr}{e:Ev}(k:e.kind=8):dQ g e=⟨g.nx,g.l,begG g e,g.cm,g.tk⟩:=by simp[dQ,k]
theorem step9 {g:Gr}{e:Ev}(k:e.kind=9):dQ g e=⟨g.nx,hitI g.l (dueG g).id (dueG g).qty,begG g e,g.cm,g.tk⟩:=by simp[dQ,k]
def runG:Gr->List Ev->Gr × Int
 | g,[]=>(g,0)
 | g,e::r=>if zE g e=0 then runG (dQ g e) r else(g,zE g e)
def gr0 (next:Int)(l:List Od):Gr:=⟨next,l,0,zCm,zOd⟩
structure GI (g:Gr):Prop where
 len:g.l.length<=21
 l0:0<=g.tk.left
 l1:g.tk.left<=1000000
 good:g.bg≠1\/g.tk.left≠0->GoodL g.l
 free:g.bg≠1->g.tk.left=0
 rise:eo g.l
 start:g.bg=0->0<=g.nx/\g.nx<=1000000/\(∀x∈g.l,x.side=1\/x.side=2)/\∀x∈g.l,x.id<g.nx
 bg:0<=g.bg/\g.bg<=9
 acc:g.bg=1->betB g.cm.s 1 2=true/\prcB g.cm=true/\(g.tk.left≠0->g.tk.side=g.cm.s/\g.tk.ticks=tkS g.cm.p/\∀x∈g.l,x.id<g.tk.id)
theorem ik {e:Ev}(h:okE e=true):1<=e.kind/\e.kind<=9:=by
 unfold okE at h;split at h
 ·simp at h
 ·rename_i hf;unfold fldK at hf
  by_cases D:e.kind=1
  ·omega
  by_cases Y:e.kind=2
  ·omega
  by_cases h3:e.kind=3
  ·omega
  by_cases h4:e.kind=4\/e.kind=5\/e.kind=6\/e.kind=7\/e.kind=9
  ·omega
  by_cases h5:e.kind=8
  ·omega
  simp[D,Y,h3,h4,h5] at hf
theorem okE_new {e:Ev}(h:okE e=true)(hk:e.kind=1):e.cmd.k=1/\e.cmd.i=0:=by
 unfold okE at h;split at h
 ·simp at h
 ·split at h
  ·simp at h
  ·simp only[xf,beq_iff_eq] at h;exact⟨h.1,h.2.1⟩
theorem new_ok {next:Int}{l:List Od}{c:Cm}(h:newR next l c=0):betB c.s 1 2=true/\prcB c=true/\betB c.q 1 1000000=true/\betB c.t 1 5=true:=by
 unfold newR at h
 by_cases D:betB c.s 1 2=false
 ·rw[if_pos D] at h;omega
 rw[if_neg D] at h
 by_cases Y:betB c.t 1 5=false
 ·rw[if_pos Y] at h;omega
 rw[if_neg Y] at h
 by_cases h3:lifW c=true
 ·rw[if_pos h3] at h;omega
 rw[if_neg h3] at h
 by_cases h4:prcB c=false
 ·rw[if_pos h4] at h;omega
 rw[if_neg h4] at h
 by_cases h5:betB c.q 1 1000000=false
 ·rw[if_pos h5] at h;omega
 simp only[Bool.not_eq_false] at D Y h4 h5;exact⟨D,h4,h5,Y⟩
theorem ref_newG {next:Int}{l:List Od}{c:Cm}(hk:c.k=1)(h:refR next l c=0):newR next l c=0:=by
 unfold refR at h;rw[if_pos hk] at h;split at h
 ·exact h
 ·omega
theorem tk_tkS {c:Cm}(hp:prcB c=true):tk c.p=tkS c.p:=by
 unfold prcB at hp
 by_cases h:c.t=2
 ·rw[if_pos h] at hp;have hz:=fbit_zero (of_decide_eq_true hp);rw[hz];decide
 ·rw[if_neg h] at hp;exact(tkS_ok hp).symm
theorem plc_pos {l:List Od}{id:Int}(h:¬ plc l id<0):∃(k:Nat) (o:Od),plc l id=k/\l[k]? = some o/\o.id=id:=by
 rcases plcF_spec id l 0 with⟨D,_⟩|⟨i,o,D,Y,h3,_⟩
 ·exact absurd (show plc l id<0 by rw[plc,D];decide) h
 ·exact⟨i,o,by rw[plc,D,Nat.zero_add],Y,h3⟩
theorem ref_can {next:Int}{l:List Od}{id:Int}(h:refR next l ⟨2,0,0,0,0,id,0,⟨#[]⟩⟩=0):¬ plc l id<0:=by
 unfold refR at h;rw[if_neg (by show ¬ ((2:Int)=1);decide),if_pos (by rfl)] at h;split at h
 ·unfold idR at h;intro hp;rw[if_pos hp] at h;omega
 ·omega
theorem ref_red {next:Int}{l:List Od}{id q:Int}(h:refR next l ⟨3,0,0,0,q,id,0,⟨#[]⟩⟩=0):∃(k:Nat) (o:Od),plc l id=k/\l[k]? = some o/\o.id=id/\1<=q/\q<o.left:=by
 unfold refR at h;rw[if_neg (by show ¬ ((3:Int)=1);decide),if_neg (by show ¬ ((3:Int)=2);decide),if_pos (by rfl)] at h;split at h
 ·unfold redR at h;split at h
  ·rename_i hq;split at h
   ·omega
   ·rename_i hp;obtain⟨k,o,D,Y,h3⟩:=plc_pos hp;rw[D,Int.toNat_natCast,Y] at h;simp only at h;split at h
    ·omega
    ·exact⟨k,o,D,Y,h3,by simp[betB] at hq;omega,by omega⟩
  ·omega
 ·omega
theorem gz {l:List Od}{id qty:Int}{k:Nat}{o:Od}(hp:plc l id=k)(hk:l[k]? = some o):hitI l id qty=dR l k o qty:=by
 unfold hitI;rw[hp,Int.toNat_natCast,hk]
theorem setI_at {l:List Od}{id qty:Int}{k:Nat}{o:Od}(hp:plc l id=k)(hk:l[k]? = some o):setI l id qty=l.set k { o with left:=qty }:=by
 unfold setI;rw[hp,Int.toNat_natCast,hk]
theorem leftAt_at {l:List Od}{id:Int}{k:Nat}{o:Od}(hp:plc l id=k)(hk:l[k]? = some o):leftAt l id=o.left:=by
 unfold leftAt;rw[hp,Int.toNat_natCast,hk]
theorem takD_three {l:List Od}{c:Cm}{t:Od}(h:(takD l c t).kind=3):t.left≠0/\∃o,dZ l (othS c.s)=some o/\eB c o=true/\takD l c t=⟨3,t.id,o.id,min t.left o.left,o.ticks⟩:=by
 unfold takD lftD at *
 by_cases h0:t.left=0
 ·rw[if_pos h0] at h;exact absurd h (by decide)
 ·rw[if_neg h0] at h |-;refine⟨h0,?_⟩;cases hf:dZ l (othS c.s) with
  | none=>rw[hf] at h;simp only at h;split at h <;> simp at h
  | some o =>
   rw[hf] at h;simp only at h
   by_cases hm:eB c o=true
   ·exact⟨o,rfl,hm,by simp only[hm,if_true]⟩
   ·rw[if_neg hm] at h;split at h <;> simp at h
theorem takD_left {l:List Od}{c:Cm}{t:Od}(h:(takD l c t).kind≠0):t.left≠0:=by
 intro h0;unfold takD at h;rw[if_pos h0] at h;exact h rfl
theorem takD_kind (l:List Od)(c:Cm)(t:Od):(takD l c t).kind=0\/(takD l c t).kind=3\/(takD l c t).kind=4\/(takD l c t).kind=5:=by
 unfold takD lftD zDu
 repeat' split
 all_goals simp
theorem dayD_nine {l:List Od}(h:(dayD l).kind≠0):∃o,l.find? isDy=some o/\dayD l=⟨9,o.id,0,o.left,0⟩:=by
 unfold dayD at *;cases hf:l.find? isDy with
 | none=>rw[hf] at h;exact absurd rfl h
 | some o=>exact⟨o,rfl,rfl⟩
theorem dayD_kind (l:List Od):(dayD l).kind=0\/(dayD l).kind=9:=by
 unfold dayD zDu;split <;> simp
theorem due_bg {g:Gr}(h:(dueG g).kind≠0):(g.bg=1/\dueG g=takD g.l g.cm g.tk)\/(g.bg=8/\dueG g=dayD g.l):=by
 unfold dueG at *
 by_cases D:g.bg=1
 ·exact .inl ⟨D,by rw[if_pos D]⟩
 ·by_cases h8:g.bg=8
  ·exact .inr ⟨h8,by rw[if_neg D,if_pos h8]⟩
  ·rw[if_neg D,if_neg h8] at h;exact absurd rfl h
theorem due_three {g:Gr}(h:(dueG g).kind=3):g.bg=1/\g.tk.left≠0/\∃o,dZ g.l (othS g.cm.s)=some o/\eB g.cm o=true/\dueG g=⟨3,g.tk.id,o.id,min g.tk.left o.left,o.ticks⟩:=by
 rcases due_bg (g:=g) (by omega) with⟨D,Y⟩|⟨D,Y⟩
 ·rw[Y] at h |-;obtain⟨h3,h4⟩:=takD_three h;exact⟨D,h3,h4⟩
 ·rw[Y] at h;rcases dayD_kind g.l with h3|h3 <;> omega
theorem due_nine {g:Gr}(h:(dueG g).kind=9):g.bg=8/\∃o,g.l.find? isDy=some o/\dueG g=⟨9,o.id,0,o.left,0⟩:=by
 rcases due_bg (g:=g) (by omega) with⟨D,Y⟩|⟨D,Y⟩
 ·rw[Y] at h;rcases takD_kind g.l g.cm g.tk with h3|h3|h3|h3 <;> omega
 ·rw[Y] at h |-;exact⟨D,dayD_nine (by omega)⟩
theorem due_left {g:Gr}(h:(dueG g).kind=4\/(dueG g).kind=5):g.bg=1/\g.tk.left≠0:=by
 rcases due_bg (g:=g) (by omega) with⟨D,Y⟩|⟨D,Y⟩
 ·exact⟨D,takD_left (l:=g.l) (c:=g.cm) (by rw[<- Y];omega)⟩
 ·rw[Y] at h;rcases dayD_kind g.l with h3|h3 <;> omega
theorem gi_start {next:Int}{l:List Od}(X:GoodL l)(h0:0<=next)(D:next<=1000000)(hs:∀x∈l,x.side=1\/x.side=2)(hi:∀x∈l,x.id<next):GI (gr0 next l):=
 ⟨by have:=X.len;show l.length<=21;omega,Int.le_refl _,by show(0:Int)<=1000000;decide,fun _=>X,fun _=>rfl,X.rise,fun _=>⟨h0,D,hs,hi⟩,⟨Int.le_refl _,by show(0:Int)<=9;decide⟩,fun h=>absurd (show(0:Int)=1 from h) (by decide)⟩
theorem good_set {l:List Od}(h:GoodL l){k:Nat}{o:Od}(hk:l[k]? = some o){q:Int}(D:1<=q)(Y:q<o.left):GoodL (l.set k { o with left:=q }):=by
 have Q:=h.left o (yP hk);have:=(gN h hk (qty:=o.left-q) (by omega) (by omega)).1;unfold dR at this;rw[if_neg (by omega)] at this;rwa[show o.left-(o.left-q)=q by omega] at this
theorem hit_idsG {l:List Od}{k:Nat}{o:Od}{q:Int}(hk:l[k]? = some o){b:Int}(h:∀x∈l,x.id<b):∀x∈dR l k o q,x.id<b:=by
 intro x hx;rw[dR] at hx;split at hx
 ·rcases List.mem_append.1 hx with D|D
  ·exact h x (List.mem_of_mem_take D)
  ·exact h x (List.mem_of_mem_drop D)
 ·rcases List.mem_or_eq_of_mem_set hx with D|rfl
  ·exact h x D
  ·exact h o (yP hk)
theorem find_at {l:List Od}{o:Od}(h:l.find? isDy=some o):∃k:Nat,l[k]? = some o:=List.getElem?_of_mem (List.mem_of_find?_eq_some h)
theorem gA {g:Gr}{e:Ev}(h:dW g e=0):g.bg=0/\refR g.nx g.l (dV e)=0:=by
 unfold dW at h;split at h
 ·omega
 ·split at h
  ·omega
  ·exact⟨by omega,by omega⟩
theorem due_zero {g:Gr}{e:Ev}(h:dueR g e=0):g.bg≠0/\(dueG g).kind≠0/\((dueG g).kind=9\/e.kind=9->ed e (dueG g)=true):=by
 unfold dueR at h;split at h
 ·omega
 ·split at h
  ·omega
  ·split at h
   ·omega
   ·rename_i D Y h3;refine⟨D,Y,fun h4=>?_⟩;cases hj:ed e (dueG g) with
    | true=>rfl
    | false=>exact absurd ⟨h4,hj⟩ h3
theorem just_eq {e:Ev}{d:Du}(h:ed e d=true):e.kind=d.kind/\e.id=d.id/\e.qty=d.qty:=by
 unfold ed at h;simpa only[xf,beq_iff_eq] using h
theorem rule1 {g:Gr}{e:Ev}(hk:e.kind=1)(h:zE g e=0):g.bg=0/\refR g.nx g.l e.cmd=0/\e.id=g.nx:=by
 unfold zE at h;rw[if_pos hk] at h
 by_cases hs:dW g e=0
 ·rw[if_neg (by simpa using hs)] at h;obtain⟨D,Y⟩:=gA hs;unfold dV at Y;rw[if_pos hk] at Y;split at h
  ·rename_i h3;exact⟨D,Y,h3⟩
  ·omega
 ·rw[if_pos hs] at h;exact absurd h hs
theorem rule3 {g:Gr}{e:Ev}(hk:e.kind=3)(h:zE g e=0):g.bg=1/\g.tk.left≠0/\∃o,dZ g.l (othS g.cm.s)=some o/\eB g.cm o=true/\e.id=g.tk.id/\e.other=o.id/\e.qty=min g.tk.left o.left/\e.price=o.ticks:=by
 unfold zE at h;simp only[hk] at h;rw[if_neg (by decide),if_neg (by decide),if_neg (by decide),if_neg (by decide),if_neg (by decide)] at h
 by_cases hd:dueR g e=0
 ·rw[if_neg (by simpa using hd),if_pos trivial] at h;unfold trR at h
  by_cases D:(dueG g).kind=3/\e.id=(dueG g).id
  ·rw[if_neg (by simpa using D)] at h;obtain⟨Y,h3,o,h4,h5,h6⟩:=due_three D.1
   by_cases h7:e.other=(dueG g).other
   ·rw[if_neg (by simpa using h7)] at h
    by_cases h8:e.price=(dueG g).price
    ·rw[if_neg (by simpa using h8)] at h
     by_cases h9:e.qty=(dueG g).qty
     ·have qi:=D.2;rw[h6] at h7 h8 h9 qi;exact⟨Y,h3,o,h4,h5,qi,h7,h9,h8⟩
     ·rw[if_pos h9] at h;omega
    ·rw[if_pos h8] at h;omega
   ·rw[if_pos h7] at h;omega
  ·rw[if_pos D] at h;omega
 ·rw[if_pos hd] at h;exact absurd h hd
theorem rule45 {g:Gr}{e:Ev}(hk:e.kind=4\/e.kind=5)(h:zE g e=0):g.bg=1/\g.tk.left≠0:=by
 unfold zE at h;rw[if_neg (by omega),if_neg (by omega),if_neg (by omega),if_neg (by omega),if_neg (by omega)] at h
 by_cases hd:dueR g e=0
 ·rw[if_neg (by simpa using hd),if_neg (by omega),if_neg (by omega)] at h;split at h
  ·rename_i hj;obtain⟨D,_⟩:=just_eq hj;exact due_left (by omega)
  ·omega
 ·rw[if_pos hd] at h;exact absurd h hd
theorem rule6 {g:Gr}{e:Ev}(hk:e.kind=6)(h:zE g e=0):g.bg=0/\∃(k:Nat) (o:Od),plc g.l e.id=k/\g.l[k]? = some o/\o.id=e.id/\e.qty=o.left:=by
 unfold zE at h;simp only[hk] at h;rw[if_neg (by decide),if_neg (by decide),if_pos trivial] at h
 by_cases hs:dW g e=0
 ·rw[if_neg (by simpa using hs)] at h;obtain⟨D,Y⟩:=gA hs;simp only[dV,hk] at Y;obtain⟨k,o,h3,h4,h5⟩:=plc_pos (ref_can Y);rw[leftAt_at h3 h4] at h;split at h
  ·rename_i h6;exact⟨D,k,o,h3,h4,h5,h6⟩
  ·omega
 ·rw[if_pos hs] at h;exact absurd h hs
theorem rule7 {g:Gr}{e:Ev}(hk:e.kind=7)(h:zE g e=0):g.bg=0/\∃(k:Nat) (o:Od),plc g.l e.id=k/\g.l[k]? = some o/\o.id=e.id/\1<=e.qty/\e.qty<o.left:=by
 unfold zE at h;simp only[hk] at h;rw[if_neg (by decide),if_neg (by decide),if_neg (by decide),if_pos trivial] at h;obtain⟨D,Y⟩:=gA h;simp only[dV,hk] at Y;exact⟨D,ref_red Y⟩
theorem rule8 {g:Gr}{e:Ev}(hk:e.kind=8)(h:zE g e=0):g.bg=0:=by
 unfold zE at h;simp only[hk] at h;rw[if_neg (by decide),if_neg (by decide),if_neg (by decide),if_neg (by decide),if_pos trivial] at h
 by_cases hs:dW g e=0
 ·exact(gA hs).1
 ·rw[if_pos hs] at h;exact absurd h hs
theorem rule2 {g:Gr}{e:Ev}(hk:e.kind=2)(h:zE g e=0):g.bg=0:=by
 unfold zE at h;simp only[hk] at h;rw[if_neg (by decide),if_pos trivial] at h
 by_cases hs:g.bg=0
 ·exact hs
 ·rw[if_pos hs] at h;omega
theorem rule9 {g:Gr}{e:Ev}(hk:e.kind=9)(h:zE g e=0):g.bg=8/\∃o,g.l.find? isDy=some o/\dueG g=⟨9,o.id,0,o.left,0⟩/\e.id=o.id/\e.qty=o.left:=by
 unfold zE at h;simp only[hk] at h;rw[if_neg (by decide),if_neg (by decide),if_neg (by decide),if_neg (by decide),if_neg (by decide)] at h
 by_cases hd:dueR g e=0
 ·obtain⟨D,Y,h3⟩:=due_zero hd;obtain⟨h4,h5,h6⟩:=just_eq (h3 (.inr hk));obtain⟨h7,o,h8,h9⟩:=due_nine (g:=g) (by omega);rw[h9] at h5 h6;exact⟨h7,o,h8,h9,h5,h6⟩
 ·rw[if_pos hd] at h;exact absurd h hd
theorem gi_step {g:Gr}{e:Ev}(h:GI g)(he:okE e=true)(hr:zE g e=0):GI (dQ g e):=by
 have hk:=ik he;obtain⟨nx,l,bg,cm,tk⟩:=g;have xC:=h.len;have jN:=h.l0;have hl1:=h.l1;have hbg:=h.bg;simp only at xC jN hl1 hbg;rcases(show e.kind=1\/e.kind=2\/e.kind=3\/e.kind=4\/e.kind=5\/e.kind=6\/e.kind=7\/e.kind=8\/e.kind=9 by omega) with k|k|k|k|k|k|k|k|k
 ·obtain⟨D,Y,h3⟩:=rule1 k hr;simp only at D Y h3;subst D;obtain⟨a1,a2,a3,a4⟩:=new_ok (ref_newG (okE_new he k).1 Y);have X:=h.good (.inl (by first|(simp;done)|simp[k]));have hq:1<=e.cmd.q/\e.cmd.q<=1000000:=by simpa[betB] using a3
  rw[step1 k];simp only[begG];exact⟨xC,by show 0<=e.cmd.q;omega,by show e.cmd.q<=1000000;omega,fun _=>X,fun h9=>absurd (by first|(simp;done)|simp[k]) h9,X.rise,fun h9=>absurd h9 (by first|(simp;done)|simp[k]),⟨by first|(simp;done)|simp[k],by first|(simp;done)|simp[k]⟩,fun _=>⟨a1,a2,fun _=>⟨rfl,tk_tkS a2,fun x hx=>by show x.id<e.id;rw[h3];exact(h.start rfl).2.2.2 x hx⟩⟩⟩
 ·have D:=rule2 k hr;simp only at D;subst D;have hf:=h.free (by first|(simp;done)|simp[k]);have X:=h.good (.inl (by first|(simp;done)|simp[k]));rw[step2 k];simp only[begG];exact⟨xC,jN,hl1,fun _=>X,fun _=>hf,X.rise,fun h9=>absurd h9 (by first|(simp;done)|simp[k]),⟨by first|(simp;done)|simp[k],by first|(simp;done)|simp[k]⟩,fun h9=>absurd h9 (by first|(simp;done)|simp[k])⟩
 ·obtain⟨D,Y,o,h3,h4,h5,h6,h7,h8⟩:=rule3 k hr;simp only at D Y h3 h4 h5 h7;subst D;have X:=h.good (.inr Y);obtain⟨hm,_⟩:=gJ h3;obtain⟨i,hi⟩:=List.getElem?_of_mem hm;have hp:=fU X.rise hi;have Q:=X.left o hm;obtain⟨uD,qS⟩:=gN X hi (qty:=min tk.left o.left) (by omega) (by omega);have hac:=h.acc rfl;have vV:=uD.len;rw[step3 k];simp only[begG,h6,h7,gz hp hi];refine⟨yO uD.len (by decide),by show 0<=tk.left-min tk.left o.left;omega,by show tk.left-min tk.left o.left<=1000000;omega,fun _=>uD,fun h9=>absurd rfl h9,uD.rise,fun h9=>absurd h9 (by first|(simp;done)|simp[k]),⟨by first|(simp;done)|simp[k],by first|(simp;done)|simp[k]⟩,fun _=>⟨hac.1,hac.2.1,fun _=>⟨(hac.2.2 Y).1,(hac.2.2 Y).2.1,hit_idsG hi (hac.2.2 Y).2.2⟩⟩⟩
 ·obtain⟨D,Y⟩:=rule45 (.inl k) hr;simp only at D Y;subst D;have X:=(h.good (.inr Y)).len;have hac:=h.acc rfl;simp only at X;rw[step4 k];simp only[begG];exact⟨by show(l ++ [tk]).length<=21;rw[yQ];simp only[List.length_cons,List.length_nil];omega,Int.le_refl _,by first|(simp;done)|simp[k],fun h9=>by rcases h9 with h9|h9 <;> exact absurd rfl h9,fun h9=>absurd rfl h9,by show(l ++ [tk]).Pairwise _;exact List.pairwise_append.2 ⟨h.rise,List.pairwise_singleton _ _,fun x hx y hy=>by simp at hy;subst hy;exact(hac.2.2 Y).2.2 x hx⟩,fun h9=>absurd h9 (by first|(simp;done)|simp[k]),⟨by first|(simp;done)|simp[k],by first|(simp;done)|simp[k]⟩,fun _=>⟨hac.1,hac.2.1,fun h9=>absurd rfl h9⟩⟩
 ·obtain⟨D,Y⟩:=rule45 (.inr k) hr;simp only at D Y;subst D;have hac:=h.acc rfl;rw[step5 k];simp only[begG];exact⟨xC,Int.le_refl _,by first|(simp;done)|simp[k],fun h9=>by rcases h9 with h9|h9 <;> exact absurd rfl h9,fun h9=>absurd rfl h9,h.rise,fun h9=>absurd h9 (by first|(simp;done)|simp[k]),⟨by first|(simp;done)|simp[k],by first|(simp;done)|simp[k]⟩,fun _=>⟨hac.1,hac.2.1,fun h9=>absurd rfl h9⟩⟩
 ·obtain⟨D,i,o,hp,hi,_,hq⟩:=rule6 k hr;simp only at D hp hi;subst D;have hf:=h.free (by first|(simp;done)|simp[k]);have X:=h.good (.inl (by first|(simp;done)|simp[k]));have Q:=X.left o (yP hi);obtain⟨uD,qS⟩:=gN X hi (qty:=e.qty) (by omega) (by omega);have vV:=uD.len;rw[step6 k];simp only[begG,gz hp hi];exact⟨yO uD.len (by decide),jN,hl1,fun _=>uD,fun _=>hf,uD.rise,fun h9=>absurd h9 (by first|(simp;done)|simp[k]),⟨by first|(simp;done)|simp[k],by first|(simp;done)|simp[k]⟩,fun h9=>absurd h9 (by first|(simp;done)|simp[k])⟩
 ·obtain⟨D,i,o,hp,hi,_,pE,bU⟩:=rule7 k hr;simp only at D hp hi;subst D;have hf:=h.free (by first|(simp;done)|simp[k]);have X:=h.good (.inl (by first|(simp;done)|simp[k]));have uD:=good_set X hi pE bU;have vV:=uD.len;rw[step7 k];simp only[begG,setI_at hp hi];exact⟨yO uD.len (by decide),jN,hl1,fun _=>uD,fun _=>hf,uD.rise,fun h9=>absurd h9 (by first|(simp;done)|simp[k]),⟨by first|(simp;done)|simp[k],by first|(simp;done)|simp[k]⟩,fun h9=>absurd h9 (by first|(simp;done)|simp[k])⟩
 ·have D:=rule8 k hr;simp only at D;subst D;have hf:=h.free (by first|(simp;done)|simp[k]);have X:=h.good (.inl (by first|(simp;done)|simp[k]));rw[step8 k];simp only[begG];exact⟨xC,jN,hl1,fun _=>X,fun _=>hf,X.rise,fun h9=>absurd h9 (by first|(simp;done)|simp[k]),⟨by first|(simp;done)|simp[k],by first|(simp;done)|simp[k]⟩,fun h9=>absurd h9 (by first|(simp;done)|simp[k])⟩
 ·obtain⟨D,o,Y,h3,h4,h5⟩:=rule9 k hr;simp only at D Y;subst D;have hf:=h.free (by first|(simp;done)|simp[k]);have X:=h.good (.inl (by first|(simp;done)|simp[k]));obtain⟨i,hi⟩:=find_at Y;have hp:=fU X.rise hi;have Q:=X.left o (yP hi);obtain⟨uD,qS⟩:=gN X hi (qty:=o.left) (by omega) (by omega);have vV:=uD.len;rw[step9 k];simp only[begG,h3,gz hp hi];exact⟨yO uD.len (by decide),jN,hl1,fun _=>uD,fun _=>hf,uD.rise,fun h9=>absurd h9 (by first|(simp;done)|simp[k]),⟨by first|(simp;done)|simp[k],by first|(simp;done)|simp[k]⟩,fun h9=>absurd h9 (by first|(simp;done)|simp[k])⟩
structure MR (g:Gr) (t:Od) (kd:Int) (dy:List Od):Prop where
 left:t.left=g.tk.left
 same:g.tk.left≠0->t=g.tk
 side:t.side=0\/t.side=1\/t.side=2
 kd:g.bg=1->kd=g.cm.t
 dy:dy=if g.bg=8 then g.l.filter isDy else[]
def lftM (kd:Int)(t:Od):Du:=⟨if dT kd=true then 4 else 5,t.id,0,t.left,0⟩
def dueM (l:List Od)(t:Od)(kd:Int)(dy:List Od):Du:=
 if t.left≠0 then(match dZ l (othS t.side) with
  | some o=>if fw t.side t.ticks o=true then⟨3,t.id,o.id,min t.left o.left,o.ticks⟩ else lftM kd t
  | none=>lftM kd t)
 else match dy with
  | o :: _=>⟨9,o.id,0,o.left,0⟩
  | []=>zDu
theorem lft_eq (c:Cm)(t:Od):lftM c.t t=lftD c t:=by
 unfold lftM lftD;split <;> rfl
theorem filter_find {l:List Od}:(match l.filter isDy with|o :: _=>(⟨9,o.id,0,o.left,0⟩:Du) | []=>zDu)=dayD l:=by
 unfold dayD;rw[<- List.head?_filter];cases l.filter isDy <;> rfl
theorem dueM_eq {g:Gr}{t:Od}{kd:Int}{dy:List Od}(h:GI g)(hm:MR g t kd dy):dueM g.l t kd dy=dueG g:=by
 unfold dueM dueG
 by_cases D:g.bg=1
 ·rw[if_pos D];obtain⟨a1,a2,a3⟩:=h.acc D;unfold takD
  by_cases h0:g.tk.left=0
  ·rw[if_pos h0,if_neg (by rw[hm.left];simpa using h0),hm.dy,if_neg (by omega)]
  ·obtain⟨b1,b2,_⟩:=a3 h0;rw[if_neg h0,if_pos (by rw[hm.left];exact h0),hm.same h0,hm.kd D,lft_eq,b1,b2];cases dZ g.l (othS g.cm.s) with
   | none=>rfl
   | some o=>simp only[cross_meet a2]
 ·rw[if_neg D];have h0:=h.free D;rw[if_neg (by rw[hm.left];simpa using h0),hm.dy]
  by_cases h8:g.bg=8
  ·rw[if_pos h8,if_pos h8];exact filter_find
  ·rw[if_neg h8,if_neg h8]
def fstM (nx:Int)(l:List Od)(e:Ev):Int:=
 if zX e.kind=false then 3
 else if e.kind=2 then(if refR nx l (dV e)=0\/refR nx l (dV e)≠e.reason then 4 else 0)
 else if refR nx l (dV e)≠0 then 5
 else if e.kind=1 then(if e.id≠nx then 6 else 0)
 else if e.kind=6 then(if e.qty≠leftAt l e.id then 7 else 0)
 else if e.kind=8 then(if e.qty≠((dys l).length:Int) then 7 else 0)
 else 0
def latM (d:Du)(e:Ev):Int:=
 if zX e.kind=true then 3
 else if d.kind=0 then 8
 else if d.kind=9\/e.kind=9 then(if ed e d=true then 0 else 14)
 else if d.kind≠3 then(if e.kind=3 then 9 else if ed e d=true then 0 else 13)
 else if e.kind≠3 then 13
 else if e.id≠d.id then 9
 else if e.other≠d.other then 10
 else if e.price≠d.price then 11
 else if e.qty≠d.qty then 12
 else 0
def ruleM (g:Gr)(e:Ev):Int:=if g.bg=0 then fstM g.nx g.l e else latM (dueG g) e
theorem dysF_len:∀(l:List Od) (k:Nat),(dysF l k).length=(l.filter isDy).length
 | [],_=>rfl
 | o::r,k=>by
  rw[dysF,List.filter_cons]
  by_cases h:o.life=1
  ·rw[if_pos h,if_pos (by simpa[isDy] using h),List.length_cons,List.length_cons,dysF_len r (k+1)]
  ·rw[if_neg h,if_neg (by simpa[isDy] using h),dysF_len r (k+1)]
theorem ruleM_eq {g:Gr}{e:Ev}(hk:1<=e.kind/\e.kind<=9):ruleM g e=zE g e:=by
 have hd:((dys g.l).length:Int)=((g.l.filter isDy).length:Int):=by rw[dys,dysF_len]
 unfold ruleM
 by_cases h0:g.bg=0
 ·rw[if_pos h0];unfold fstM zE dW dueR;rw[hd];rcases(show e.kind=1\/e.kind=2\/e.kind=3\/e.kind=4\/e.kind=5\/e.kind=6\/e.kind=7\/e.kind=8\/e.kind=9 by omega) with k|k|k|k|k|k|k|k|k
  ·simp[k,zX,h0];split <;> simp_all
  ·simp[k,zX,h0,dV];split <;> split <;> simp_all
  ·simp[k,zX,h0]
  ·simp[k,zX,h0]
  ·simp[k,zX,h0]
  ·simp[k,zX,h0];split <;> simp_all
  ·simp[k,zX,h0]
  ·simp[k,zX,h0];split <;> simp_all
  ·simp[k,zX,h0]
 ·rw[if_neg h0];unfold latM zE dW dueR trR;rcases(show e.kind=1\/e.kind=2\/e.kind=3\/e.kind=4\/e.kind=5\/e.kind=6\/e.kind=7\/e.kind=8\/e.kind=9 by omega) with k|k|k|k|k|k|k|k|k
  ·simp[k,zX,h0]
  ·simp[k,zX,h0]
  ·simp only[k,zX,h0];generalize dueG g=d;have hn:d.kind=9->ed e d=false:=fun h=>by unfold ed;rw[k,h];rfl
   cases hj:ed e d <;> by_cases d0:d.kind=0 <;> by_cases d9:d.kind=9 <;> by_cases d3:d.kind=3 <;> simp[d0,d9,d3] <;> grind
  ·simp only[k,zX,h0];generalize hdd:dueG g=d;have hn:d.kind=3->ed e d=false:=fun h=>by unfold ed;rw[k,h];rfl
   cases hj:ed e d <;> by_cases d0:d.kind=0 <;> by_cases d9:d.kind=9 <;> by_cases d3:d.kind=3 <;> simp[d0,d9,d3] <;> grind
  ·simp only[k,zX,h0];generalize hdd:dueG g=d;have hn:d.kind=3->ed e d=false:=fun h=>by unfold ed;rw[k,h];rfl
   cases hj:ed e d <;> by_cases d0:d.kind=0 <;> by_cases d9:d.kind=9 <;> by_cases d3:d.kind=3 <;> simp[d0,d9,d3] <;> grind
  ·simp[k,zX,h0]
  ·simp[k,zX,h0]
  ·simp[k,zX,h0]
  ·simp only[k,zX,h0];generalize dueG g=d;cases hj:ed e d <;> by_cases d0:d.kind=0 <;> simp[d0] <;> grind
theorem filter_gone {l:List Od}{k:Nat}{o:Od}{r:List Od}(hk:l[k]? = some o)(hr:eo l)(hf:l.filter isDy=o::r):(l.take k++l.drop (k+1)).filter isDy=r:=by
 have hl:l=l.take k++o::l.drop (k+1):=by
  obtain⟨D,rfl⟩:=yH.1 hk;rw[<- xd D,List.take_append_drop]
 have Q:isDy o=true:=by
  have:o∈l.filter isDy:=by rw[hf];exact List.mem_cons_self
  exact(List.mem_filter.1 this).2
 have D:(l.take k).filter isDy++o::(l.drop (k+1)).filter isDy=o::r:=by
  rw[<- hf]
  conv=>rhs;rw[hl]
  rw[List.filter_append,List.filter_cons,if_pos Q]
 rw[List.filter_append];cases hc:(l.take k).filter isDy with
 | nil=>rw[hc] at D;simpa using D
 | cons a b =>
  exfalso;rw[hc] at D;simp only[List.cons_append,List.cons.injEq] at D;have ha:a∈l.take k:=(List.mem_filter.1 (by rw[hc];exact List.mem_cons_self)).1;rw[D.1] at ha;obtain⟨j,hj⟩:=List.getElem?_of_mem ha
  have hjk:j<k:=by
   have:=(yH.1 hj).1;simp at this;omega
  rw[List.getElem?_take] at hj;rw[if_pos hjk] at hj;have:=rise_id hr hj hk rfl;omega
def tkM (g:Gr)(t:Od)(e:Ev):Od:=
 if e.kind=1 then⟨g.nx,e.cmd.s,tkS e.cmd.p,e.cmd.q,e.cmd.l,e.cmd.g⟩ else if e.kind=3 then { t with left:=t.left-e.qty } else if e.kind=4\/e.kind=5 then zOd else t
def kdM (kd:Int)(e:Ev):Int:=if e.kind=1 then e.cmd.t else kd
def dyM (g:Gr)(dy:List Od)(e:Ev):List Od:=if e.kind=8 then g.l.filter isDy else if e.kind=9 then dy.tail else dy
theorem mr_start (next:Int)(l:List Od):MR (gr0 next l) zOd 0 []:=
 ⟨rfl,fun h=>absurd rfl h,.inl rfl,fun h=>absurd (show(0:Int)=1 from h) (by decide),rfl⟩
theorem mr_step {g:Gr}{t:Od}{kd:Int}{dy:List Od}{e:Ev}(h:GI g)(hm:MR g t kd dy)(he:okE e=true)(hr:zE g e=0):MR (dQ g e) (tkM g t e) (kdM kd e) (dyM g dy e):=by
 have hk:=ik he;obtain⟨nx,l,bg,cm,tk⟩:=g;have hm1:=hm.left;have hm2:=hm.same;have hm3:=hm.side;have hm4:=hm.kd;have hm5:=hm.dy;simp only at hm1 hm2 hm4 hm5;rcases(show e.kind=1\/e.kind=2\/e.kind=3\/e.kind=4\/e.kind=5\/e.kind=6\/e.kind=7\/e.kind=8\/e.kind=9 by omega) with k|k|k|k|k|k|k|k|k
 ·obtain⟨D,Y,h3⟩:=rule1 k hr;simp only at D Y h3;subst D;obtain⟨a1,a2,a3,a4⟩:=new_ok (ref_newG (okE_new he k).1 Y);rw[step1 k];simp only[tkM,kdM,dyM,begG,k];refine⟨rfl,fun _=>?_,.inr (side_of a1),fun _=>rfl,?_⟩
  ·show(⟨nx,e.cmd.s,tkS e.cmd.p,e.cmd.q,e.cmd.l,e.cmd.g⟩:Od)=ordO e.cmd e.id;rw[ordO,h3,tk_tkS a2]
  ·rw[hm5];rfl
 ·have D:=rule2 k hr;simp only at D;subst D;rw[step2 k];simp only[tkM,kdM,dyM,begG,k];exact⟨hm1,hm2,hm3,fun h9=>absurd h9 (by first|(simp;done)|simp[k]),by rw[hm5];rfl⟩
 ·obtain⟨D,Y,o,h3,h4,h5,h6,h7,h8⟩:=rule3 k hr;simp only at D Y h3 h4 h5 h7;subst D;have hs:=hm2 Y;subst hs;rw[step3 k];simp only[tkM,kdM,dyM,begG,k];exact⟨rfl,fun _=>rfl,hm3,fun _=>hm4 rfl,by rw[hm5];rfl⟩
 ·obtain⟨D,Y⟩:=rule45 (.inl k) hr;simp only at D Y;subst D;rw[step4 k];simp only[tkM,kdM,dyM,begG,k];exact⟨rfl,fun h9=>absurd rfl h9,.inl rfl,fun _=>hm4 rfl,by rw[hm5];rfl⟩
 ·obtain⟨D,Y⟩:=rule45 (.inr k) hr;simp only at D Y;subst D;rw[step5 k];simp only[tkM,kdM,dyM,begG,k];exact⟨rfl,fun h9=>absurd rfl h9,.inl rfl,fun _=>hm4 rfl,by rw[hm5];rfl⟩
 ·obtain⟨D,_⟩:=rule6 k hr;simp only at D;subst D;rw[step6 k];simp only[tkM,kdM,dyM,begG,k];exact⟨hm1,hm2,hm3,fun h9=>absurd h9 (by first|(simp;done)|simp[k]),by rw[hm5];rfl⟩
 ·obtain⟨D,_⟩:=rule7 k hr;simp only at D;subst D;rw[step7 k];simp only[tkM,kdM,dyM,begG,k];exact⟨hm1,hm2,hm3,fun h9=>absurd h9 (by first|(simp;done)|simp[k]),by rw[hm5];rfl⟩
 ·have D:=rule8 k hr;simp only at D;subst D;rw[step8 k];simp only[tkM,kdM,dyM,begG,k];exact⟨hm1,hm2,hm3,fun h9=>absurd h9 (by first|(simp;done)|simp[k]),rfl⟩
 ·obtain⟨D,o,Y,h3,h4,h5⟩:=rule9 k hr;simp only at D Y;subst D;have X:=h.good (.inl (by first|(simp;done)|simp[k]));obtain⟨i,hi⟩:=find_at Y;have hp:=fU X.rise hi;rw[if_pos rfl] at hm5;rw[<- List.head?_filter] at Y
  obtain⟨r,hr2⟩:∃r,l.filter isDy=o::r:=by
   cases hc:l.filter isDy with
   | nil=>rw[hc] at Y;simp at Y
   | cons a b=>rw[hc] at Y;simp at Y;subst Y;exact⟨b,rfl⟩
  rw[step9 k];simp only[tkM,kdM,dyM,begG,h3,gz hp hi,k];refine⟨hm1,hm2,hm3,fun h9=>absurd h9 (by first|(simp;done)|simp[k]),?_⟩;rw[hm5,hr2];show r=List.filter isDy (dR l i o o.left);rw[dR,if_pos rfl,filter_gone hi X.rise hr2]
end Go.Proofs.YthhkapcbocgcoaaGreatDoor
