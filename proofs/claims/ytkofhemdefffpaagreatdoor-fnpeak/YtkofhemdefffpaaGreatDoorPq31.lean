/-.-/
import Derived.Test.YtkofhemdefffpaaGreatDoorPq28
import Derived.Test.YtkofhemdefffpaaGreatDoorPq29
set_option linter.unusedVariables false
set_option maxHeartbeats 6400000
set_option maxRecDepth 100000
namespace Go.Proofs.YtkofhemdefffpaaGreatDoor
open Go.RowKit


theorem gi_start {next:Int}{l:List Od}(F:GoodL l)(h0:0<=next)(Z:next<=1000000)(hs:∀x∈l,x.side=1\/x.side=2)(hi:∀x∈l,x.id<next):GI (gr0 next l):=
 ⟨by have:=F.len;show l.length<=21;omega,Int.le_refl _,by show(0:Int)<=1000000;decide,fun _=>F,fun _=>rfl,F.rise,fun _=>⟨h0,Z,hs,hi⟩,⟨Int.le_refl _,by show(0:Int)<=9;decide⟩,fun h=>absurd (show(0:Int)=1 from h) (by decide)⟩
theorem good_set {l:List Od}(h:GoodL l){k:Nat}{o:Od}(E:l[k]? = some o){q:Int}(Z:1<=q)(Q:q<o.left):GoodL (l.set k { o with left:=q }):=by
 have D:=h.left o (yP E);have:=(eT h E (qty:=o.left-q) (by omega) (by omega)).1;unfold db at this;rw[if_neg (by omega)] at this;rwa[show o.left-(o.left-q)=q by omega] at this
theorem hit_idsG {l:List Od}{k:Nat}{o:Od}{q:Int}(E:l[k]? = some o){b:Int}(h:∀x∈l,x.id<b):∀x∈db l k o q,x.id<b:=by
 intro x hx;rw[db] at hx;split at hx
 ·rcases List.mem_append.1 hx with Z|Z
  ·exact h x (List.mem_of_mem_take Z)
  ·exact h x (List.mem_of_mem_drop Z)
 ·rcases List.mem_or_eq_of_mem_set hx with Z|rfl
  ·exact h x Z
  ·exact h o (yP E)
theorem find_at {l:List Od}{o:Od}(h:l.find? isDy=some o):∃k:Nat,l[k]? = some o:=List.getElem?_of_mem (List.mem_of_find?_eq_some h)
theorem fq {g:Gr}{e:Ev}(h:df g e=0):g.bg=0/\refR g.nx g.l (da e)=0:=by
 unfold df at h;split at h
 ·omega
 ·split at h
  ·omega
  ·exact⟨by omega,by omega⟩
theorem due_zero {g:Gr}{e:Ev}(h:dueR g e=0):g.bg≠0/\(dueG g).kind≠0/\((dueG g).kind=9\/e.kind=9->dW e (dueG g)=true):=by
 unfold dueR at h;split at h
 ·omega
 ·split at h
  ·omega
  ·split at h
   ·omega
   ·rename_i Z Q I;refine⟨Z,Q,fun h4=>?_⟩;cases hj:dW e (dueG g) with
    | true=>rfl
    | false=>exact absurd ⟨h4,hj⟩ I
theorem just_eq {e:Ev}{d:Du}(h:dW e d=true):e.kind=d.kind/\e.id=d.id/\e.qty=d.qty:=by
 unfold dW at h;simpa only[xf,beq_iff_eq] using h
theorem rule1 {g:Gr}{e:Ev}(E:e.kind=1)(h:zK g e=0):g.bg=0/\refR g.nx g.l e.cmd=0/\e.id=g.nx:=by
 unfold zK at h;rw[if_pos E] at h
 by_cases hs:df g e=0
 ·rw[if_neg (by simpa using hs)] at h;obtain⟨Z,Q⟩:=fq hs;unfold da at Q;rw[if_pos E] at Q;split at h
  ·rename_i I;exact⟨Z,Q,I⟩
  ·omega
 ·rw[if_pos hs] at h;exact absurd h hs
theorem rule3 {g:Gr}{e:Ev}(E:e.kind=3)(h:zK g e=0):g.bg=1/\g.tk.left≠0/\∃o,dv g.l (othS g.cm.s)=some o/\dL g.cm o=true/\e.id=g.tk.id/\e.other=o.id/\e.qty=min g.tk.left o.left/\e.price=o.ticks:=by
 unfold zK at h;simp only[E] at h;rw[if_neg (by decide),if_neg (by decide),if_neg (by decide),if_neg (by decide),if_neg (by decide)] at h
 by_cases hd:dueR g e=0
 ·rw[if_neg (by simpa using hd),if_pos trivial] at h;unfold trR at h
  by_cases Z:(dueG g).kind=3/\e.id=(dueG g).id
  ·rw[if_neg (by simpa using Z)] at h;obtain⟨Q,I,o,h4,h5,h6⟩:=due_three Z.1
   by_cases h7:e.other=(dueG g).other
   ·rw[if_neg (by simpa using h7)] at h
    by_cases h8:e.price=(dueG g).price
    ·rw[if_neg (by simpa using h8)] at h
     by_cases h9:e.qty=(dueG g).qty
     ·have vj:=Z.2;rw[h6] at h7 h8 h9 vj;exact⟨Q,I,o,h4,h5,vj,h7,h9,h8⟩
     ·rw[if_pos h9] at h;omega
    ·rw[if_pos h8] at h;omega
   ·rw[if_pos h7] at h;omega
  ·rw[if_pos Z] at h;omega
 ·rw[if_pos hd] at h;exact absurd h hd
theorem rule45 {g:Gr}{e:Ev}(E:e.kind=4\/e.kind=5)(h:zK g e=0):g.bg=1/\g.tk.left≠0:=by
 unfold zK at h;rw[if_neg (by omega),if_neg (by omega),if_neg (by omega),if_neg (by omega),if_neg (by omega)] at h
 by_cases hd:dueR g e=0
 ·rw[if_neg (by simpa using hd),if_neg (by omega),if_neg (by omega)] at h;split at h
  ·rename_i hj;obtain⟨Z,_⟩:=just_eq hj;exact due_left (by omega)
  ·omega
 ·rw[if_pos hd] at h;exact absurd h hd
theorem rule6 {g:Gr}{e:Ev}(E:e.kind=6)(h:zK g e=0):g.bg=0/\∃(k:Nat) (o:Od),plc g.l e.id=k/\g.l[k]? = some o/\o.id=e.id/\e.qty=o.left:=by
 unfold zK at h;simp only[E] at h;rw[if_neg (by decide),if_neg (by decide),if_pos trivial] at h
 by_cases hs:df g e=0
 ·rw[if_neg (by simpa using hs)] at h;obtain⟨Z,Q⟩:=fq hs;simp only[da,E] at Q;obtain⟨k,o,I,h4,h5⟩:=plc_pos (ref_can Q);rw[leftAt_at I h4] at h;split at h
  ·rename_i h6;exact⟨Z,k,o,I,h4,h5,h6⟩
  ·omega
 ·rw[if_pos hs] at h;exact absurd h hs
theorem rule7 {g:Gr}{e:Ev}(E:e.kind=7)(h:zK g e=0):g.bg=0/\∃(k:Nat) (o:Od),plc g.l e.id=k/\g.l[k]? = some o/\o.id=e.id/\1<=e.qty/\e.qty<o.left:=by
 unfold zK at h;simp only[E] at h;rw[if_neg (by decide),if_neg (by decide),if_neg (by decide),if_pos trivial] at h;obtain⟨Z,Q⟩:=fq h;simp only[da,E] at Q;exact⟨Z,ref_red Q⟩
theorem rule8 {g:Gr}{e:Ev}(E:e.kind=8)(h:zK g e=0):g.bg=0:=by
 unfold zK at h;simp only[E] at h;rw[if_neg (by decide),if_neg (by decide),if_neg (by decide),if_neg (by decide),if_pos trivial] at h
 by_cases hs:df g e=0
 ·exact(fq hs).1
 ·rw[if_pos hs] at h;exact absurd h hs
theorem rule2 {g:Gr}{e:Ev}(E:e.kind=2)(h:zK g e=0):g.bg=0:=by
 unfold zK at h;simp only[E] at h;rw[if_neg (by decide),if_pos trivial] at h
 by_cases hs:g.bg=0
 ·exact hs
 ·rw[if_pos hs] at h;omega
theorem rule9 {g:Gr}{e:Ev}(E:e.kind=9)(h:zK g e=0):g.bg=8/\∃o,g.l.find? isDy=some o/\dueG g=⟨9,o.id,0,o.left,0⟩/\e.id=o.id/\e.qty=o.left:=by
 unfold zK at h;simp only[E] at h;rw[if_neg (by decide),if_neg (by decide),if_neg (by decide),if_neg (by decide),if_neg (by decide)] at h
 by_cases hd:dueR g e=0
 ·obtain⟨Z,Q,I⟩:=due_zero hd;obtain⟨h4,h5,h6⟩:=just_eq (I (.inr E));obtain⟨h7,o,h8,h9⟩:=due_nine (g:=g) (by omega);rw[h9] at h5 h6;exact⟨h7,o,h8,h9,h5,h6⟩
 ·rw[if_pos hd] at h;exact absurd h hd
theorem gi_step {g:Gr}{e:Ev}(h:GI g)(he:okE e=true)(hr:zK g e=0):GI (dG g e):=by
 have E:=fh he;obtain⟨nx,l,bg,cm,tk⟩:=g;have xC:=h.len;have oJ:=h.l0;have hl1:=h.l1;have hbg:=h.bg;simp only at xC oJ hl1 hbg;rcases(show e.kind=1\/e.kind=2\/e.kind=3\/e.kind=4\/e.kind=5\/e.kind=6\/e.kind=7\/e.kind=8\/e.kind=9 by omega) with k|k|k|k|k|k|k|k|k
 ·obtain⟨Z,Q,I⟩:=rule1 k hr;simp only at Z Q I;subst Z;obtain⟨a1,a2,a3,a4⟩:=new_ok (ref_newG (okE_new he k).1 Q);have F:=h.good (.inl (by first|(simp;done)|simp[k]));have hq:1<=e.cmd.q/\e.cmd.q<=1000000:=by simpa[betB] using a3
  rw[step1 k];simp only[begG];exact⟨xC,by show 0<=e.cmd.q;omega,by show e.cmd.q<=1000000;omega,fun _=>F,fun h9=>absurd (by first|(simp;done)|simp[k]) h9,F.rise,fun h9=>absurd h9 (by first|(simp;done)|simp[k]),⟨by first|(simp;done)|simp[k],by first|(simp;done)|simp[k]⟩,fun _=>⟨a1,a2,fun _=>⟨rfl,tk_tkS a2,fun x hx=>by show x.id<e.id;rw[I];exact(h.start rfl).2.2.2 x hx⟩⟩⟩
 ·have Z:=rule2 k hr;simp only at Z;subst Z;have hf:=h.free (by first|(simp;done)|simp[k]);have F:=h.good (.inl (by first|(simp;done)|simp[k]));rw[step2 k];simp only[begG];exact⟨xC,oJ,hl1,fun _=>F,fun _=>hf,F.rise,fun h9=>absurd h9 (by first|(simp;done)|simp[k]),⟨by first|(simp;done)|simp[k],by first|(simp;done)|simp[k]⟩,fun h9=>absurd h9 (by first|(simp;done)|simp[k])⟩
 ·obtain⟨Z,Q,o,I,h4,h5,h6,h7,h8⟩:=rule3 k hr;simp only at Z Q I h4 h5 h7;subst Z;have F:=h.good (.inr Q);obtain⟨hm,_⟩:=fL I;obtain⟨i,hi⟩:=List.getElem?_of_mem hm;have hp:=fd F.rise hi;have D:=F.left o hm;obtain⟨vn,uJ⟩:=eT F hi (qty:=min tk.left o.left) (by omega) (by omega);have hac:=h.acc rfl;have jK:=vn.len;rw[step3 k];simp only[begG,h6,h7,gE hp hi];refine⟨yO vn.len (by decide),by show 0<=tk.left-min tk.left o.left;omega,by show tk.left-min tk.left o.left<=1000000;omega,fun _=>vn,fun h9=>absurd rfl h9,vn.rise,fun h9=>absurd h9 (by first|(simp;done)|simp[k]),⟨by first|(simp;done)|simp[k],by first|(simp;done)|simp[k]⟩,fun _=>⟨hac.1,hac.2.1,fun _=>⟨(hac.2.2 Q).1,(hac.2.2 Q).2.1,hit_idsG hi (hac.2.2 Q).2.2⟩⟩⟩
 ·obtain⟨Z,Q⟩:=rule45 (.inl k) hr;simp only at Z Q;subst Z;have F:=(h.good (.inr Q)).len;have hac:=h.acc rfl;simp only at F;rw[step4 k];simp only[begG];exact⟨by show(l ++ [tk]).length<=21;rw[yQ];simp only[List.length_cons,List.length_nil];omega,Int.le_refl _,by first|(simp;done)|simp[k],fun h9=>by rcases h9 with h9|h9 <;> exact absurd rfl h9,fun h9=>absurd rfl h9,by show(l ++ [tk]).Pairwise _;exact List.pairwise_append.2 ⟨h.rise,List.pairwise_singleton _ _,fun x hx y hy=>by simp at hy;subst hy;exact(hac.2.2 Q).2.2 x hx⟩,fun h9=>absurd h9 (by first|(simp;done)|simp[k]),⟨by first|(simp;done)|simp[k],by first|(simp;done)|simp[k]⟩,fun _=>⟨hac.1,hac.2.1,fun h9=>absurd rfl h9⟩⟩
 ·obtain⟨Z,Q⟩:=rule45 (.inr k) hr;simp only at Z Q;subst Z;have hac:=h.acc rfl;rw[step5 k];simp only[begG];exact⟨xC,Int.le_refl _,by first|(simp;done)|simp[k],fun h9=>by rcases h9 with h9|h9 <;> exact absurd rfl h9,fun h9=>absurd rfl h9,h.rise,fun h9=>absurd h9 (by first|(simp;done)|simp[k]),⟨by first|(simp;done)|simp[k],by first|(simp;done)|simp[k]⟩,fun _=>⟨hac.1,hac.2.1,fun h9=>absurd rfl h9⟩⟩
 ·obtain⟨Z,i,o,hp,hi,_,hq⟩:=rule6 k hr;simp only at Z hp hi;subst Z;have hf:=h.free (by first|(simp;done)|simp[k]);have F:=h.good (.inl (by first|(simp;done)|simp[k]));have D:=F.left o (yP hi);obtain⟨vn,uJ⟩:=eT F hi (qty:=e.qty) (by omega) (by omega);have jK:=vn.len;rw[step6 k];simp only[begG,gE hp hi];exact⟨yO vn.len (by decide),oJ,hl1,fun _=>vn,fun _=>hf,vn.rise,fun h9=>absurd h9 (by first|(simp;done)|simp[k]),⟨by first|(simp;done)|simp[k],by first|(simp;done)|simp[k]⟩,fun h9=>absurd h9 (by first|(simp;done)|simp[k])⟩
 ·obtain⟨Z,i,o,hp,hi,_,aG,hq2⟩:=rule7 k hr;simp only at Z hp hi;subst Z;have hf:=h.free (by first|(simp;done)|simp[k]);have F:=h.good (.inl (by first|(simp;done)|simp[k]));have vn:=good_set F hi aG hq2;have jK:=vn.len;rw[step7 k];simp only[begG,setI_at hp hi];exact⟨yO vn.len (by decide),oJ,hl1,fun _=>vn,fun _=>hf,vn.rise,fun h9=>absurd h9 (by first|(simp;done)|simp[k]),⟨by first|(simp;done)|simp[k],by first|(simp;done)|simp[k]⟩,fun h9=>absurd h9 (by first|(simp;done)|simp[k])⟩
 ·have Z:=rule8 k hr;simp only at Z;subst Z;have hf:=h.free (by first|(simp;done)|simp[k]);have F:=h.good (.inl (by first|(simp;done)|simp[k]));rw[step8 k];simp only[begG];exact⟨xC,oJ,hl1,fun _=>F,fun _=>hf,F.rise,fun h9=>absurd h9 (by first|(simp;done)|simp[k]),⟨by first|(simp;done)|simp[k],by first|(simp;done)|simp[k]⟩,fun h9=>absurd h9 (by first|(simp;done)|simp[k])⟩
 ·obtain⟨Z,o,Q,I,h4,h5⟩:=rule9 k hr;simp only at Z Q;subst Z;have hf:=h.free (by first|(simp;done)|simp[k]);have F:=h.good (.inl (by first|(simp;done)|simp[k]));obtain⟨i,hi⟩:=find_at Q;have hp:=fd F.rise hi;have D:=F.left o (yP hi);obtain⟨vn,uJ⟩:=eT F hi (qty:=o.left) (by omega) (by omega);have jK:=vn.len;rw[step9 k];simp only[begG,I,gE hp hi];exact⟨yO vn.len (by decide),oJ,hl1,fun _=>vn,fun _=>hf,vn.rise,fun h9=>absurd h9 (by first|(simp;done)|simp[k]),⟨by first|(simp;done)|simp[k],by first|(simp;done)|simp[k]⟩,fun h9=>absurd h9 (by first|(simp;done)|simp[k])⟩

def brV (k:Int):Value:=.iface 163 (H k)
def brk (k:Int):List PanicEntry:=[{ v:=.iface 163 (H k),recovered:=false }]
theorem eB (k:Int)(w:World):Calls Tryz.prog 119 #[.bool true,H k] w fun e w'=>e = .returned (.tuple #[])/\w'=w:=by
 go_enter Tryz.func119,Tryz.ntmps119;go_wp2_with fail;go_end0;exact⟨rfl,rfl⟩
theorem eh (k:Int)(w:World):Calls Tryz.prog 119 #[.bool false,H k] w fun e w'=>e = .panicked (brk k)/\w'=w:=by
 go_enter Tryz.func119,Tryz.ntmps119;go_wp2;exact⟨rfl,rfl,rfl⟩
theorem isJust_any (e:Ev)(d:Du)(w:World):Calls Tryz.prog 125 #[evV e,duV d] w fun r w'=>r = .returned (.bool (dW e d))/\yp w w':=by
 have hsf:=sfl;obtain⟨xn,⟨ck,cs,ct,cl,cq,ci,cp,cg⟩,id,xj,qty,xk,xi⟩:=e;obtain⟨dk,di,dot,dq,dp⟩:=d;unfold evV duV;simp only
 by_cases Z:xn=dk
 ·have b1:(xn==dk)=true:=by simpa using Z
  by_cases Q:id=di
  ·have b2:(id==di)=true:=by simpa using Q
   have hj:dW ⟨xn,⟨ck,cs,ct,cl,cq,ci,cp,cg⟩,id,xj,qty,xk,xi⟩ ⟨dk,di,dot,dq,dp⟩=(qty==dq):=by simp[dW,b1,b2]
   rw[hj];clear hj Z Q;go_enter Tryz.func125,Tryz.ntmps125;go_wp2_with fail;go_ret;exact⟨rfl,by go_grown⟩
  ·have b2:(id==di)=false:=by simpa using Q
   have hj:dW ⟨xn,⟨ck,cs,ct,cl,cq,ci,cp,cg⟩,id,xj,qty,xk,xi⟩ ⟨dk,di,dot,dq,dp⟩=false:=by simp[dW,b1,b2]
   rw[hj];clear hj Z Q;go_enter Tryz.func125,Tryz.ntmps125;go_wp2_with fail;go_ret;exact⟨rfl,by go_grown⟩
 ·have b1:(xn==dk)=false:=by simpa using Z
  have hj:dW ⟨xn,⟨ck,cs,ct,cl,cq,ci,cp,cg⟩,id,xj,qty,xk,xi⟩ ⟨dk,di,dot,dq,dp⟩=false:=by simp[dW,b1]
  rw[hj];clear hj Z;go_enter Tryz.func125,Tryz.ntmps125;go_wp2_with fail;go_ret;exact⟨rfl,by go_grown⟩
def mI (k:Int)(f:FuncId)(b:Nat):MapEntry:={ key:=H k,val:=.func (.func f) #[] #[],born:=b }
def chkM:Array MapEntry:=#[mI 1 93 0,mI 2 94 1,mI 3 95 2,mI 4 96 3,mI 5 97 4,mI 6 98 5,mI 7 99 6,mI 8 100 7,mI 9 101 8]
def gsV (r:Nat)(vq:Value)(g:Gr):List Value:=[.map (some r),H g.nx,vq,H g.bg,H g.cm.s,H g.cm.t,H g.cm.l,H g.cm.q,yk g.cm.p,yl g.cm.g,H g.tk.id,H g.tk.side,H g.tk.ticks,H g.tk.left,H g.tk.life,yl g.tk.tag]
structure GS (G B r:Nat) (W:World) (vq:Value) (g:Gr):Prop where
 box:Bx W G (gsV r vq g)
 row:ORow W B vq g.l
 typ:∃cur,W.heap[G]? = some (.cells cur 144 (0,0))
 mp:W.heap[r]? = some (.map chkM 9)
 hG:B<=G
 hr:B<=r
section
variable {G B r:Nat} {w W W':World} {vq uB:Value} {g g':Gr}
theorem GS.lt (h:GS G B r W vq g):G<W.heap.size:=by
 obtain⟨xt,hc⟩:=h.typ;exact(yZ.1 hc).1
theorem GS.rlt (h:GS G B r W vq g):r<W.heap.size:=(yZ.1 h.mp).1
theorem GS.ne (h:GS G B r W vq g):r≠G:=by
 rintro rfl;obtain⟨xt,hc⟩:=h.typ;rw[h.mp] at hc;cases hc
theorem GS.nq (h:GS G B r W vq g):some G≠vq.ownBlock:=zF h.row h.typ (by decide)
theorem GS.nr (h:GS G B r W vq g):some r≠vq.ownBlock:=by
 rcases h.row.2 with⟨Z,_⟩|⟨b,cap,xt,Z,_,I,_⟩
 ·rw[Z];simp[Value.ownBlock]
 ·rw[Z];intro e;simp only[Value.ownBlock,Option.some.injEq] at e;rw[<- e,h.mp] at I;cases I
theorem zw (h:GS G B r W vq g)(K:yp W W'):GS G B r W' vq g:=
 ⟨zl h.box K h.lt,zn h.row K,by obtain⟨xt,hc⟩:=h.typ;exact⟨xt,(K.block G h.lt).trans hc⟩,(K.block r h.rlt).trans h.mp,h.hG,h.hr⟩
theorem gs_set (h:GS G B r W vq g)(j:Nat)(u:Value)(hj:j<16)(he:gsV r vq g'=(gsV r vq g).set j u)(hl:g'.l=g.l):GS G B r (W.setCell (Y G j) u) vq g':=
 ⟨by rw[he];exact eO h.box hj,by rw[hl];exact zX h.row h.nq j u,by obtain⟨xt,hc⟩:=h.typ;exact ez W G j u hc,(yT _ _ _ _ h.ne).trans h.mp,h.hG,h.hr⟩
theorem gs_took {l':List Od}(h:GS G B r W vq g)(hc:W'.cell? (Y G 2)=some uB)(D:ORow W' B uB l')(ht:TookAt G 1 vq.ownBlock W W'):GS G B r W' uB { g with l:=l' }:=by
 refine⟨⟨fun j u hj=>?_,fun j hj=>⟨?_,?_⟩⟩,D,by obtain⟨xt,hc⟩:=h.typ;exact ht.kind _ _ _ hc,(ht.block r h.rlt h.ne h.nr).trans h.mp,h.hG,h.hr⟩
 ·rw[Nat.zero_add]
  by_cases Q:j=2
  ·subst Q;cases hj;exact hc
  ·rw[ht.cell j Q];refine J h.box j ?_;unfold gsV at hj |-
   match j,hj,Q with
   | 0,hj,_=>exact hj
   | 1,hj,_=>exact hj
   | 2,hj,Q=>exact absurd rfl Q
   | j+3,hj,_=>exact hj
 ·rw[Nat.zero_add]
  by_cases Q:j=2
  ·subst Q;rw[hc];rfl
  ·rw[ht.cell j Q];have:=(h.box.t j (by simpa[gsV] using hj)).1;rwa[Nat.zero_add] at this
 ·rw[ht.frozen];exact(h.box.t j (by simpa[gsV] using hj)).2
end
theorem fdyF_find:∀(l:List Od) (k:Nat),(fdyF l k = -1/\l.find? isDy=none) \/ ∃(i:Nat) (o:Od),fdyF l k=((k+i:Nat):Int)/\l[i]? = some o/\l.find? isDy=some o
 | [],_=>.inl ⟨rfl,rfl⟩
 | a::r,k=>by
  by_cases h:a.life=1
  ·exact .inr ⟨0,a,by rw[fdyF,if_pos h,Nat.add_zero],rfl,by simp[isDy,h]⟩
  ·rcases fdyF_find r (k+1) with⟨Z,Q⟩|⟨i,o,Z,Q,I⟩
   ·exact .inl ⟨by rw[fdyF,if_neg h,Z],by simp[isDy,h];simpa[isDy] using Q⟩
   ·exact .inr ⟨i+1,o,by rw[fdyF,if_neg h,Z];congr 1;omega,by simpa using Q,by rw[List.find?_cons_of_neg (by simpa[isDy] using h)];exact I⟩
theorem fdy_find (l:List Od):(fdy l = -1/\l.find? isDy=none) \/ ∃(i:Nat) (o:Od),fdy l=i/\l[i]? = some o/\l.find? isDy=some o:=by
 rcases fdyF_find l 0 with h|⟨i,o,Z,Q,I⟩
 ·exact .inl h
 ·exact .inr ⟨i,o,by rw[fdy,Z,Nat.zero_add],Q,I⟩
theorem rd_grown {w w':World}{v:Value}{l:List Int}{B:Nat}(h:Rd w v l)(F:w.grownBy w' (some B))(hB:l ≠ []->v.ownBlock≠some B):Rd w' v l:=by
 obtain⟨a,cap,rfl,hl,hc⟩:=h;refine⟨a,cap,rfl,hl,fun xE=>?_⟩;obtain⟨b,off,rfl,xp⟩:=hc xE;have K:some b≠some B:=fun e=>hB xE (by simpa[Value.ownBlock] using e);exact⟨b,off,rfl,fun i hi=>(yR (a:=(Y b (off+i))) (F.block b (yL w _ (xp i hi)) K)).trans (xp i hi)⟩
structure Src (B:Nat) (w:World) (v:Value) (l:List Int) (m:Int):Prop where
 rd:Rd w v l
 ne:l ≠ []->v.ownBlock≠some B
 bts:Bts l
 code:w.cell? ⟨B,0,none⟩=some v
 cells:∃at_ seed:Int,0<=at_/\at_ <= m/\0<=seed/\seed<2147483648/\w.cell? ⟨B,1,none⟩=some (.int .i64 at_)/\w.cell? ⟨B,2,none⟩=some (.int .i64 seed)
 free1:w.frozen? ⟨B,1,none⟩=false
 free2:w.frozen? ⟨B,2,none⟩=false
def du (B:Nat)(w:World)(v:Value)(l:List Int)(m:Int)(w':World):Prop:=Src B w' v l m/\w.grownBy w' (some B)
theorem fP {B:Nat}{w:World}{v:Value}{l:List Int}{m:Int}(h:Src B w v l m):du B w v l m w:=⟨h,yS _ _⟩
theorem eY {B:Nat}{w:World}{v:Value}{l:List Int}{m n:Int}(h:Src B w v l m)(hn:m<=n):Src B w v l n:=by
 obtain⟨Z,Q,I,h4,⟨a,s,k0,k1,k2⟩,h6,h7⟩:=h;exact⟨Z,Q,I,h4,⟨a,s,k0,by omega,k2⟩,h6,h7⟩
theorem iN {B:Nat}{w0 w:World}{v:Value}{l:List Int}{m:Int}(h:du B w0 v l m w)(q:Nat):du B w0 v l m (w.drewN q):=
 ⟨⟨h.1.rd,h.1.ne,h.1.bts,h.1.code,h.1.cells,h.1.free1,h.1.free2⟩,zr h.2 (ef _ q _)⟩
theorem src_at {B:Nat}{w0 w:World}{v:Value}{l:List Int}{m:Int}(h:du B w0 v l m w)(a:Int)(h0:0<=a)(ha:a<=m+1):du B w0 v l (m+1) (w.setCell (Y B 1) (H a)):=by
 obtain⟨h,F⟩:=h;obtain⟨at0,s0,_,_,k2,k3,Z,Q⟩:=h.cells;have g:=fI w (Y B 1) (H a)
 exact⟨⟨rd_grown h.rd g h.ne,h.ne,h.bts,(yM _ _ _ _ (zV (by omega))).trans h.code,
  ⟨a,s0,h0,ha,k2,k3,yN _ _ _ Z,(yM _ _ _ _ (zV (by omega))).trans Q⟩,
  (World.frozen?_setCell _ _ _ _).trans h.free1,(World.frozen?_setCell _ _ _ _).trans h.free2⟩,zr F g⟩
theorem src_seed {B:Nat}{w0 w:World}{v:Value}{l:List Int}{m:Int}(h:du B w0 v l m w)(s:Int)(h0:0<=s)(hs:s<2147483648):du B w0 v l m (w.setCell (Y B 2) (H s)):=by
 obtain⟨h,F⟩:=h;obtain⟨at0,s0,k0,k1,_,_,Z,Q⟩:=h.cells;have g:=fI w (Y B 2) (H s)
 exact⟨⟨rd_grown h.rd g h.ne,h.ne,h.bts,(yM _ _ _ _ (zV (by omega))).trans h.code,
  ⟨at0,s,k0,k1,h0,hs,(yM _ _ _ _ (zV (by omega))).trans Z,yN _ _ _ Q⟩,
  (World.frozen?_setCell _ _ _ _).trans h.free1,(World.frozen?_setCell _ _ _ _).trans h.free2⟩,zr F g⟩
theorem src_step {B:Nat}{w w1:World}{v:Value}{l:List Int}{m at_ aM:Int}(h:Src B w v l m)(h0:0<=at_)(ha:at_ <= m)(c1:w.cell? (Y B 1)=some (H at_))(c2:w.cell? (Y B 2)=some (H aM))
  (hw:w.setCell (Y B 1) (H (at_ + 1))=w1) :
  du B w v l (m+1) w1/\w1.cell? (Y B 0)=some v/\w1.cell? (Y B 1)=some (H (at_ + 1))/\w1.cell? (Y B 2)=some (H aM)/\w1.frozen? (Y B 2)=false/\Rd w1 v l:=by
 subst hw;have k:=src_at (fP h) (at_ + 1) (by omega) (by omega);exact⟨k,k.1.code,yN _ _ _ c1,(yM _ _ _ _ (zV (by omega))).trans c2,k.1.free2,k.1.rd⟩
theorem seed_step {B:Nat}{w0 w1 w2:World}{v:Value}{l:List Int}{m at_ s:Int}(h:du B w0 v l m w1)(d1:w1.cell? (Y B 1)=some (H at_))(h0:0<=s)(hs:s<2147483648)
  (hw:w1.setCell (Y B 2) (H s)=w2) :
  du B w0 v l m w2/\w2.cell? (Y B 0)=some v/\w2.cell? (Y B 1)=some (H at_)/\w2.cell? (Y B 2)=some (H s)/\Rd w2 v l:=by
 subst hw;obtain⟨_,_,_,_,_,_,_,k⟩:=h.1.cells;have g:=src_seed h s h0 hs;exact⟨g,g.1.code,(yM _ _ _ _ (zV (by omega))).trans d1,yN _ _ _ k,g.1.rd⟩
theorem byte_any (B:Nat)(v:Value)(l:List Int)(m:Int)(w:World)(h:Src B w v l m)(hm:m<=1073741824) :
  Calls Tryz.prog 36 #[h3 B 0] w fun e w'=>∃y:Int,e=yn (H y)/\0<=y/\y<=255/\du B w v l (m+1) w':=by
 have HS:=U h;obtain⟨xY,xE,hbts,hcode,⟨at_,aM,ha0,ha,jo,hs,c1,c2⟩,f1,f2⟩:=h;have vS:=U (fun w1 h=>src_step (w1:=w1) (O HS) ha0 ha c1 c2 h);obtain⟨a,cap,rfl,hl,hc⟩:=xY;have HB:=U hbts;clear hbts hc c2 HS f2 xE;go_enter Tryz.func36,Tryz.ntmps36;go_wp2_with fail;generalize pH:w.setCell (Y B 1) (H (at_ + 1))=w1;obtain⟨hE,d0,d1,d2,g2,hrd1⟩:=O vS w1 pH;have HE:=U hE;obtain⟨a',jd,e',_,hc⟩:=hrd1;simp only[Value.slice.injEq,true_and] at e';obtain⟨rfl,rfl⟩:=e';clear hE vS pH c1 f1 hcode
 by_cases Z:at_ + 1<=l.length
 ·have hc':=hc (by intro e;subst e;simp at Z;omega);obtain⟨b,off,rfl,xp⟩:=hc';obtain⟨k,rfl⟩:=Int.eq_ofNat_of_zero_le ha0;have hck:=xp k (by omega);have hbk:=gk (O HB) k;generalize hx:l.getD k 0=x at *;have HX:=U hx;clear hx;obtain⟨hx0,hx1⟩:=hbk;have h1'':(k:Int)<l.length:=by omega
  clear hc xp;go_quiet (fail);go_wp2_with fail;have hd:Rd w1 (.slice (some (Y b off)) l.length cap) l:=(O HE).1.rd
  go_region
  all_goals
   generalize cx:(w1.drewN _).setCell (Y B 2) (H ((aM*31+x+7) % 2147483648))=w2;obtain⟨oa,t0,t1,t2,hrd2⟩:=seed_step (iN (O HE) _) d1 (by omega) (by omega) cx;have pm:=U oa;obtain⟨a2,cap2,e2,_,hc2⟩:=hrd2;obtain⟨b2,off2,e3,cQ⟩:=hc2 (by intro e;subst e;simp at h1'';omega);simp only[Value.slice.injEq,true_and] at e2;obtain⟨rfl,rfl⟩:=e2;simp only[Option.some.injEq,Addr.mk.injEq,and_true] at e3;obtain⟨rfl,rfl⟩:=e3;have tck:=cQ k (by omega);have hx:l.getD k 0=x:=O HX;rw[hx] at tck;clear oa hc2 cQ cx d0 d1 d2 hck hx hd;go_wp2_with fail;go_quiet (fail);go_wp2_with fail;go_ret;exact⟨_,rfl,by omega,by omega,iN (O pm) _⟩
 ·have h1':(l.length:Int)<at_ + 1:=by omega
  clear hc
  by_cases Q:3000<at_ + 1
  ·go_quiet (fail);go_wp2_with fail;go_ret;exact⟨_,rfl,by omega,by omega,iN (O HE) _⟩
  ·go_quiet (fail);go_wp2_with fail;go_ret;exact⟨_,rfl,by omega,by omega,src_seed (iN (O HE) _) _ (by omega) (by omega)⟩
theorem ei (B:Nat)(v:Value)(l:List Int)(m n:Int)(w:World)(h:Src B w v l m)(hm:m<=1000000000)(Z:1<=n)(Q:n<=1073741824) :
  Calls Tryz.prog 14 #[h3 B 0,H n] w fun e w'=>∃y:Int,e=yn (H y)/\0<=y/\y<n/\du B w v l (m+3) w':=by
 have HS:=U h;clear h
 by_cases k1:n<=1
 ·go_enter Tryz.func14,Tryz.ntmps14;go_wp2_with fail;go_ret;exact⟨_,rfl,by omega,by omega,fP (eY (O HS) (by omega))⟩
 by_cases k2:n<=256
 ·go_enter Tryz.func14,Tryz.ntmps14;go_wp2_with fail;refine(byte_any B v l m _ (O HS) (by omega)).mono ?_;rintro e w1 ⟨y,rfl,ph,cz,hE⟩;have HE:=U hE;clear hE;have xE:(n==0)=false:=by simp;omega
  go_wp2_with fail;go_ret;exact⟨_,rfl,by first|omega|exact Int.emod_nonneg _ (by omega),by first|omega|exact Int.emod_lt_of_pos _ (by omega),eY (O HE).1 (by omega),(O HE).2⟩
 go_enter Tryz.func14,Tryz.ntmps14;go_wp2_with fail;refine(byte_any B v l m _ (O HS) (by omega)).mono ?_;rintro e w1 ⟨y1,rfl,ph,cz,hE⟩;have HE1:=U hE;clear hE;go_wp2_with fail;refine(byte_any B v l _ _ (O HE1).1 (by omega)).mono ?_;rintro e w2 ⟨y2,rfl,ub,xX,hE⟩;have pm:=U hE;clear hE;go_wp2_with fail;refine(byte_any B v l _ _ (O pm).1 (by omega)).mono ?_;rintro e w3 ⟨y3,rfl,hu0,hu1,hE⟩;have aO:=U hE;clear hE;have xE:(n==0)=false:=by simp;omega
 go_wp2_with fail;go_ret;exact⟨_,rfl,by first|omega|exact Int.emod_nonneg _ (by omega),by first|omega|exact Int.emod_lt_of_pos _ (by omega),eY (O aO).1 (by omega),zr (zr (O HE1).2 (O pm).2) (O aO).2⟩
theorem dayDue_any {G B r:Nat}{vq:Value}{g:Gr}(w:World)(h:GS G B r w vq g)(hn:g.l.length<=1000):Calls Tryz.prog 132 #[h3 G 0] w fun e w'=>e = .returned (duV (dayD g.l))/\yp w w':=by
 have hG:=h.lt;obtain⟨xS,HX⟩:=mh w [H 0,H 0,H 0,H 0,H 0] 167;have HS:Hid ((w.alloc (me #[H 0,H 0,H 0,H 0,H 0] 167)).heap.size=w.heap.size+1):=by show _ = _;simp
 have HG:=U (zw h xS);have HB:=U xS;clear h xS;obtain⟨nx,l,bg,cm,tk⟩:=g;simp only at hn |-;go_enter Tryz.func132,Tryz.ntmps132;refine mg fun hb HK=>?_;go_wp2_with fail;refine O HK _ _ ?_;clear HK;generalize (w.alloc (me #[H 0,H 0,H 0,H 0,H 0] 167))=W1 at HX HS HG HB |-;have c2:W1.cell? (Y G 2)=some vq:=J (O HG).box 2 rfl;have qj:=U (zZ (O HG).row (yO hn (by decide)));go_wp2_with fail;refine(indexDay_any vq l W1 (O qj)).mono ?_;rintro e w2 ⟨rfl,xy⟩;have uf:=U (zw (O HG) xy);have hz:=O HS;have xR:=U (zl (O HX) xy (by omega));have xz:=U (mf (O HB) xy);obtain ⟨z0,z1,z2,z3,z4⟩:=q0_5 (O xR) rfl;obtain ⟨f0,f1,f2,f3,f4⟩:=r0_5 (O xR) rfl;have HRD2:=U (zZ (O uf).row (yO hn (by decide)));clear c2 xy hz HX HS HG HB qj;rcases fdy_find l with⟨Z,Q⟩|⟨i,o,Z,Q,I⟩
 ·have HD:Hid (dayD l=zDu):=by show _ = _;unfold dayD;rw[Q]
  rw[Z];clear Z Q;go_wp2_with fail
  try simp +zetaDelta only[Exit.noGoto_ret]
  change bodyPost _ _ _ _ _ (World.setCells w2 w.heap.size 0 [H 0,H 0,H 0,H 0,H 0]);have xr:Hid ((World.setCells w2 w.heap.size 0 [H 0,H 0,H 0,H 0,H 0]).rangeAt w.heap.size 0 [H 0,H 0,H 0,H 0,H 0]/\yp w (World.setCells w2 w.heap.size 0 [H 0,H 0,H 0,H 0,H 0])):=⟨(zy (O xR) (by simp only[List.length_cons,List.length_nil])).r,zj w.heap.size yb [H 0,H 0,H 0,H 0,H 0] 0 w2 (O xz)⟩;generalize World.setCells w2 w.heap.size 0 [H 0,H 0,H 0,H 0,H 0]=WE at xr |-;obtain⟨d0,d1,d2,d3,d4⟩:=yC (O xr).1
  try simp only[Exit.inBlock,Exit.then]
  refine bodyPost_ret (by simp[results,Tryz.results132,go_sem,d0,d1,d2,d3,d4];try rfl) rfl ?_;exact⟨by rw[O HD];rfl,(O xr).2⟩
 ·have HD:Hid (dayD l=⟨9,o.id,0,o.left,0⟩):=by show _ = _;unfold dayD;rw[I]
  obtain⟨a,cap,rfl,hl,hc⟩:=O HRD2;obtain⟨b,off,rfl,oY,xo⟩:=hc (by rintro rfl;simp at Q);obtain⟨y0,-,-,y3,-,-⟩:=zL (xo i o Q);have hil:(i:Int)<l.length:=by have:=(yH.1 Q).1;omega
  have uo:¬ ((i:Int)<0):=by omega
  have hi0':(0:Int)<=i:=by omega
  have c2:w2.cell? (Y G 2)=some (.slice (some (Y b off)) l.length cap):=J (O uf).box 2 rfl;rw[Z];clear Z Q I hc xo HRD2;go_wp2_with fail;refine ff 19 (by kernel_rfl) (by kernel_rfl) ?_;simp only[yU,List.take_zero,yV,List.drop_zero];have c2d:w2.drew.cell? (Y G 2)=some (.slice (some (Y b off)) l.length cap):=c2;have y0d:w2.drew.cell? (Y b (off+i*6))=some (H o.id):=y0;have y3d:w2.drew.cell? (Y b (off+i*6+3))=some (H o.left):=y3;have HB2d:Hid (yp w w2.drew):=⟨(O xz).os,(O xz).tape,(O xz).output,(O xz).size,(O xz).block⟩
  repeat still_step
  refine wpStill_nil ?_;have ky:Hid (Bx w2.drew w.heap.size [H 0,H 0,H 0,H 0,H 0]):=dK (O xR);clear c2d y0d y3d c2 y0 y3 z0 z1 z2 z3 z4 f0 f1 f2 f3 f4 xR uf xz;generalize w2.drew=W3 at ky HB2d |-;obtain ⟨z0,z1,z2,z3,z4⟩:=q0_5 (O ky) rfl;obtain ⟨f0,f1,f2,f3,f4⟩:=r0_5 (O ky) rfl;go_wp2_with fail
  try simp +zetaDelta only[Exit.noGoto_ret]
  change bodyPost _ _ _ _ _ (World.setCells W3 w.heap.size 0 [H 9,H o.id,H 0,H o.left,H 0]);have xr:Hid ((World.setCells W3 w.heap.size 0 [H 9,H o.id,H 0,H o.left,H 0]).rangeAt w.heap.size 0 [H 9,H o.id,H 0,H o.left,H 0]/\yp w (World.setCells W3 w.heap.size 0 [H 9,H o.id,H 0,H o.left,H 0])):=⟨(zy (O ky) (by simp only[List.length_cons,List.length_nil])).r,zj w.heap.size yb [H 9,H o.id,H 0,H o.left,H 0] 0 W3 (O HB2d)⟩;generalize World.setCells W3 w.heap.size 0 [H 9,H o.id,H 0,H o.left,H 0]=WE at xr |-;obtain⟨d0,d1,d2,d3,d4⟩:=yC (O xr).1
  try simp only[Exit.inBlock,Exit.then]
  refine bodyPost_ret (by simp[results,Tryz.results132,go_sem,d0,d1,d2,d3,d4];try rfl) rfl ?_;exact⟨by rw[O HD];rfl,(O xr).2⟩
def DTk (vs:List (Option Value))(base:World)(l:List Od)(sd:Int)(x:Od)(p:Prop)(V:World)(j:Nat)(v:Value):Prop:=
 (j=10->¬ p->SdV V v l sd)/\(j=11->¬ p->FrV V v l sd)/\(j=16->∃pb,v=h3 pb 0/\base.heap.size<=pb/\(¬ p->V.there pb 0 6/\pb<V.heap.size)/\(p->V.rangeAt pb 0 x.vs/\pb<V.heap.size))/\∀u,vs[j]? = some (some u)->v=u
section
variable {vs:List (Option Value)} {base V V':World} {l:List Od} {sd:Int} {x:Od} {p:Prop}
theorem dtk_grow (hp:¬ p)(K:yp V V'):∀j v,DTk vs base l sd x p V j v->DTk vs base l sd x p V' j v:=by
 rintro j v ⟨Z,Q,I,h4⟩;refine⟨fun hj hp=>?_,fun hj hp=>?_,fun hj=>?_,h4⟩
 ·rcases Z hj hp with⟨Z,b,Q,I⟩|⟨Z,b,Q,I⟩
  ·exact .inl ⟨Z,b,Q,zI I (K.block _ (ed I))⟩
  ·exact .inr ⟨Z,b,Q,zI I (K.block _ (ed I))⟩
 ·rcases Q hj hp with⟨Z,b,Q,I⟩|⟨Z,b,Q,I⟩
  ·exact .inl ⟨Z,b,Q,zI I (K.block _ (ed I))⟩
  ·exact .inr ⟨Z,b,Q,zI I (K.block _ (ed I))⟩
 ·obtain⟨pb,h5,h6,h7,h8⟩:=I hj;refine⟨pb,h5,h6,fun hp=>?_,fun h=>absurd h hp⟩;obtain⟨h9,vj⟩:=h7 hp;exact⟨zk h9 K vj,yK vj K.size⟩
theorem dtk_last {v:Value}:∀j,DTk vs base l sd x False V j v->(j=16->∃pb,v=h3 pb 0/\base.heap.size<=pb/\(¬ True->V'.there pb 0 6/\pb<V'.heap.size)/\(True->V'.rangeAt pb 0 x.vs/\pb<V'.heap.size))->DTk vs base l sd x True V' j v:=
 fun j h h16=>⟨fun _ hp=>absurd trivial hp,fun _ hp=>absurd trivial hp,h16,h.2.2.2⟩
end
theorem takerDue_any {G B r:Nat}{vq:Value}{g:Gr}(w:World)(h:GS G B r w vq g)(oJ:0<=g.tk.left)(F:g.tk.left≠0->GoodL g.l):Calls Tryz.prog 131 #[h3 G 0] w fun e w'=>e = .returned (duV (takD g.l g.cm g.tk))/\yp w w':=by
 have hsf:=sfl;have hG:=h.lt;obtain⟨xS,HX⟩:=mh w [H 0,H 0,H 0,H 0,H 0] 167;have HS:Hid ((w.alloc (me #[H 0,H 0,H 0,H 0,H 0] 167)).heap.size=w.heap.size+1):=by show _ = _;simp
 have HG:=U (zw h xS);have HB:=U xS;clear h xS;obtain⟨nx,l,bg,⟨ck,cs,ct,cl,cq,ci,cp,cg⟩,⟨ti,cD,tt,tl,uD,tg⟩⟩:=g;simp only at oJ F |-;go_enter Tryz.func131,Tryz.ntmps131;refine mg fun hb HK=>?_;go_wp2_with fail;refine O HK _ _ ?_;clear HK;generalize (w.alloc (me #[H 0,H 0,H 0,H 0,H 0] 167))=W1 at HX HS HG HB |-;have c10:W1.cell? (Y G 10)=some (H ti):=J (O HG).box 10 rfl;have c13:W1.cell? (Y G 13)=some (H tl):=J (O HG).box 13 rfl;go_wp2_with fail;go_quiet (fail);have jW:Hid (Bx (W1.drewN nq) w.heap.size [H 0,H 0,H 0,H 0,H 0]):=fN (O HX) nq;have cG:Hid (GS G B r (W1.drewN nq) vq ⟨nx,l,bg,⟨ck,cs,ct,cl,cq,ci,cp,cg⟩,⟨ti,cD,tt,tl,uD,tg⟩⟩):=zw (O HG) ⟨rfl,rfl,rfl,Nat.le_refl _,fun _ _=>rfl⟩;have HBB:Hid (yp w (W1.drewN nq)):=zY (O HB) nq;have HSS:Hid ((W1.drewN nq).heap.size=w.heap.size+1):=O HS;clear HX HG HB HS c10 c13;generalize W1.drewN nq=xh at jW cG HBB HSS |-
 by_cases h0:tl=0
 ·have HD:Hid (takD l ⟨ck,cs,ct,cl,cq,ci,cp,cg⟩ ⟨ti,cD,tt,tl,uD,tg⟩=zDu):=by show _ = _;unfold takD;rw[if_pos h0]
  have b0:(tl==0)=true:=by simpa using h0
  clear h0;obtain ⟨z0,z1,z2,z3,z4⟩:=q0_5 (O jW) rfl;obtain ⟨f0,f1,f2,f3,f4⟩:=r0_5 (O jW) rfl;go_wp2_with fail
  try simp +zetaDelta only[Exit.noGoto_ret]
  change bodyPost _ _ _ _ _ (World.setCells xh w.heap.size 0 [H 0,H 0,H 0,H 0,H 0]);have xr:Hid ((World.setCells xh w.heap.size 0 [H 0,H 0,H 0,H 0,H 0]).rangeAt w.heap.size 0 [H 0,H 0,H 0,H 0,H 0]/\yp w (World.setCells xh w.heap.size 0 [H 0,H 0,H 0,H 0,H 0])):=⟨(zy (O jW) (by simp only[List.length_cons,List.length_nil])).r,zj w.heap.size yb [H 0,H 0,H 0,H 0,H 0] 0 xh (O HBB)⟩;generalize World.setCells xh w.heap.size 0 [H 0,H 0,H 0,H 0,H 0]=WE at xr |-;obtain⟨d0,d1,d2,d3,d4⟩:=yC (O xr).1
  try simp only[Exit.inBlock,Exit.then]
  refine bodyPost_ret (by simp[results,Tryz.results131,go_sem,d0,d1,d2,d3,d4];try rfl) rfl ?_;exact⟨by rw[O HD];rfl,(O xr).2⟩
 have kK:=U (F h0);have b0:(tl==0)=false:=by simpa using h0
 have aP:Hid (∀o'∈l,0<=o'.left/\o'.left<=1000000):=fun o' qe=>by have:=(O kK).left o' qe;omega
 have vv:=U (zZ (O cG).row (yO (O kK).len (by decide)));generalize uF:othS cs=sd;have bF:=U uF;generalize hq:quOf (decide (sd=1)) (zC l sd)=q;have je:=frOf_eq q;generalize hx:hdO q=x at je;generalize pN:hdF q=fb at je;have bp:Hid (frOf (quOf (decide (sd=1)) (zC l sd)) = .tuple #[.agg (yx x.id x.side x.ticks x.left x.life x.tag).toArray,.bool fb]):=by show _ = _;rw[hq];exact je
 have HFO:Hid (dv l (othS cs)=if fb=true then some x else none):=by
  show _ = _;rw[dv,uF,hq,<- hx,<- pN,hdO,hdF];cases q.head? <;> rfl
 clear uF hq je hx pN q F;have HC1:Hid (xh.cell? (Y G 1)=some (H nx)):=J (O cG).box 1 rfl;have HC2:Hid (xh.cell? (Y G 2)=some vq):=J (O cG).box 2 rfl;have ja:Hid (xh.cell? (Y G 4)=some (H cs)):=J (O cG).box 4 rfl;go_wp2_with fail;refine zA (RG xh (fun f=>{ tmps:=#[h3 G 0,M,h3 w.heap.size 0,H ti,H tl,f 16,f 18,h3 G 0,h3 G 0,h3 G 10,h3 G 10,H ti,h3 G 0,h3 G 0,h3 G 10,h3 G 13,H tl,H tl,.bool false,M,f 13,f 0,f 1,f 2,f 3,f 4,f 5,f 6,f 7,f 8,f 9,f 10,f 11,f 12,f 14,f 15,M,M,M,M,M,M,M,M,M,M,M,M,M,M,M,M,M,M,M,M,M,M,M,M,M,M,M,M,M,M,M,M],defers:=[] }) 17 (DTk [some (h3 G 0),some (h3 G 0),some (h3 G 1),some (.agg #[H nx,vq]),some (h3 G 0),some (h3 G 0),some (h3 G 4),some (h3 G 4),some (H cs),some (H sd),none,none,some (.tuple #[.agg (yx x.id x.side x.ticks x.left x.life x.tag).toArray,.bool fb]),some (.tuple #[.agg (yx x.id x.side x.ticks x.left x.life x.tag).toArray,.bool fb]),some (.agg (yx x.id x.side x.ticks x.left x.life x.tag).toArray),some (.bool fb),none,none,some (.bool fb)] xh l sd x)) (by kernel_rfl) ?_ ?_ ?_
 ·exact⟨fun _=>M,rfl,⟨rfl,rfl,rfl,Nat.le_refl _,fun _ _=>rfl⟩,fun j hj=>by rw[yJ] at hj;split at hj <;> simp at hj⟩
 ·rintro xx md V ⟨f,rfl,xl,hD⟩ hx xY;have xq:=fo xY hx (by kernel_rfl);have k17:xx[17]? = some true:=xq 17 (by simp);have g18:f 18 = .bool fb:=(hD 18 (xq 18 (by simp))).2.2.2 _ rfl;obtain⟨pb,g16,hpb,-,qX⟩:=(hD 16 (xq 16 (by simp))).2.2.1 rfl;obtain⟨ch,cf⟩:=qX k17;have uL:=U (zw (O cG) xl);have hss:=O HSS;have jW:=U (zl (O jW) xl (by omega));have xL:=U (mf (O HBB) xl);have HRG:=U ch;dsimp only;simp only[g18,g16];generalize f 0=v0,f 1=v1,f 2=v2,f 3=v3,f 4=v4,f 5=v5,f 6=v6,f 7=v7,f 8=v8,f 9=v9,f 10=v10,f 11=v11,f 12=v12,f 13=v13,f 14=v14,f 15=v15;clear hD xq xY hx k17 qX xl g16 g18 ch f xx HC1 HC2 ja hss cG HBB HSS;cases fb
  ·have HFO:Hid (dv l (othS cs)=none):=by show _ = _;have:=O HFO;simpa using this
   have HD:Hid (takD l ⟨ck,cs,ct,cl,cq,ci,cp,cg⟩ ⟨ti,cD,tt,tl,uD,tg⟩=lftD ⟨ck,cs,ct,cl,cq,ci,cp,cg⟩ ⟨ti,cD,tt,tl,uD,tg⟩):=by show _ = _;unfold takD;rw[if_neg h0];simp only[O HFO]
   clear h0;go_wp2_with fail;go_quiet (fail);have qz:Hid (Bx (V.drewN nq) w.heap.size [H 0,H 0,H 0,H 0,H 0]):=fN (O jW) _;have uE:Hid (GS G B r (V.drewN nq) vq ⟨nx,l,bg,⟨ck,cs,ct,cl,cq,ci,cp,cg⟩,⟨ti,cD,tt,tl,uD,tg⟩⟩):=zw (O uL) ⟨rfl,rfl,rfl,Nat.le_refl _,fun _ _=>rfl⟩;have uY:Hid (yp w (V.drewN nq)):=zY (O xL) _;have HZ5:Hid (w.heap.size<(V.drewN nq).heap.size):=yL _ _ (J (O qz) 0 rfl);clear jW uL xL;generalize V.drewN nq=ya at qz uE uY HZ5 |-;have c4:=J (O uE).box 4 rfl;have c5:=J (O uE).box 5 rfl;have c6:=J (O uE).box 6 rfl;have c7:=J (O uE).box 7 rfl;have c8:=J (O uE).box 8 rfl;have c9:=J (O uE).box 9 rfl;go_wp2_with fail;refine(iI ⟨ck,cs,ct,cl,cq,ci,cp,cg⟩ ya).mono ?_;rintro e w5 ⟨rfl,uj⟩;have qb:=U (zl (O qz) uj (by have:=O HZ5;omega));have qS:=U (mf (O uY) uj);clear uj c4 c5 c6 c7 c8 c9 qz uY uE;obtain ⟨z0,z1,z2,z3,z4⟩:=q0_5 (O qb) rfl;obtain ⟨f0,f1,f2,f3,f4⟩:=r0_5 (O qb) rfl;have HQ:Hid (lftD ⟨ck,cs,ct,cl,cq,ci,cp,cg⟩ ⟨ti,cD,tt,tl,uD,tg⟩=if dj ct=true then⟨4,ti,0,tl,0⟩ else⟨5,ti,0,tl,0⟩):=rfl
   cases kn:dj ct
   ·have HQ2:Hid (lftD ⟨ck,cs,ct,cl,cq,ci,cp,cg⟩ ⟨ti,cD,tt,tl,uD,tg⟩=⟨5,ti,0,tl,0⟩):=by show _ = _;rw[O HQ,kn];rfl
    clear kn HQ;go_wp2_with fail
    try simp +zetaDelta only[Exit.noGoto_ret]
    change bodyPost _ _ _ _ _ (World.setCells w5 w.heap.size 0 [H 5,H ti,H 0,H tl,H 0]);have xr:Hid ((World.setCells w5 w.heap.size 0 [H 5,H ti,H 0,H tl,H 0]).rangeAt w.heap.size 0 [H 5,H ti,H 0,H tl,H 0]/\yp w (World.setCells w5 w.heap.size 0 [H 5,H ti,H 0,H tl,H 0])):=⟨(zy (O qb) (by simp only[List.length_cons,List.length_nil])).r,zj w.heap.size yb [H 5,H ti,H 0,H tl,H 0] 0 w5 (O qS)⟩;generalize World.setCells w5 w.heap.size 0 [H 5,H ti,H 0,H tl,H 0]=WE at xr |-;obtain⟨d0,d1,d2,d3,d4⟩:=yC (O xr).1
    try simp only[Exit.inBlock,Exit.then]
    refine bodyPost_ret (by simp[results,Tryz.results131,go_sem,d0,d1,d2,d3,d4];try rfl) rfl ?_;exact⟨by rw[O HD,O HQ2];rfl,(O xr).2⟩
   ·have HQ2:Hid (lftD ⟨ck,cs,ct,cl,cq,ci,cp,cg⟩ ⟨ti,cD,tt,tl,uD,tg⟩=⟨4,ti,0,tl,0⟩):=by show _ = _;rw[O HQ,kn];rfl
    clear kn HQ;go_wp2_with fail
    try simp +zetaDelta only[Exit.noGoto_ret]
    change bodyPost _ _ _ _ _ (World.setCells w5 w.heap.size 0 [H 4,H ti,H 0,H tl,H 0]);have xr:Hid ((World.setCells w5 w.heap.size 0 [H 4,H ti,H 0,H tl,H 0]).rangeAt w.heap.size 0 [H 4,H ti,H 0,H tl,H 0]/\yp w (World.setCells w5 w.heap.size 0 [H 4,H ti,H 0,H tl,H 0])):=⟨(zy (O qb) (by simp only[List.length_cons,List.length_nil])).r,zj w.heap.size yb [H 4,H ti,H 0,H tl,H 0] 0 w5 (O qS)⟩;generalize World.setCells w5 w.heap.size 0 [H 4,H ti,H 0,H tl,H 0]=WE at xr |-;obtain⟨d0,d1,d2,d3,d4⟩:=yC (O xr).1
    try simp only[Exit.inBlock,Exit.then]
    refine bodyPost_ret (by simp[results,Tryz.results131,go_sem,d0,d1,d2,d3,d4];try rfl) rfl ?_;exact⟨by rw[O HD,O HQ2];rfl,(O xr).2⟩
  ·have HFS:Hid (dv l (othS cs)=some x):=by show _ = _;have:=O HFO;simpa using this
   have uX:Hid (GS G B r V.drew vq ⟨nx,l,bg,⟨ck,cs,ct,cl,cq,ci,cp,cg⟩,⟨ti,cD,tt,tl,uD,tg⟩⟩):=zw (O uL) ⟨rfl,rfl,rfl,Nat.le_refl _,fun _ _=>rfl⟩;have HRG4:Hid (V.drew.rangeAt pb 0 x.vs):=O HRG;have c4:=J (O uX).box 4 rfl;have c5:=J (O uX).box 5 rfl;have c6:=J (O uX).box 6 rfl;have c7:=J (O uX).box 7 rfl;have c8:=J (O uX).box 8 rfl;have c9:=J (O uX).box 9 rfl;obtain⟨p0,p1,p2,p3,p4,p5⟩:=zL (O HRG4);simp only[Nat.zero_add] at p0 p1 p2 p3 p4 p5;go_wp2_with fail;refine ff 7 (by kernel_rfl) (by kernel_rfl) ?_;simp only[yU,List.take_zero,yV,List.drop_zero]
   repeat still_step
   refine wpStill_nil ?_;go_wp2_with fail;refine(meets_any ⟨ck,cs,ct,cl,cq,ci,cp,cg⟩ x V.drew).mono ?_;rintro e ya ⟨rfl,uj⟩;have hzV:w.heap.size<V.heap.size:=yL _ _ (J (O jW) 0 rfl);have qz:=U (zl (dK (O jW)) uj hzV);have uE:=U (zw (O uX) uj);have uY:Hid (yp w ya):=⟨uj.os.trans (O xL).os,uj.tape.trans (O xL).tape,uj.output.trans (O xL).output,yO (O xL).size uj.size,fun k E=>(uj.block k (Nat.lt_trans E hzV)).trans ((O xL).block k E)⟩;have HZ5:Hid (w.heap.size<ya.heap.size):=yK hzV uj.size;obtain⟨p0,p1,p2,p3,p4,p5⟩:=zL (zf (O HRG4) uj cf);simp only[Nat.zero_add] at p0 p1 p2 p3 p4 p5;clear c4 c5 c6 c7 c8 c9 uj HRG4 uX hzV jW uL xL hsf;cases hme:dL ⟨ck,cs,ct,cl,cq,ci,cp,cg⟩ x
   ·have HD:Hid (takD l ⟨ck,cs,ct,cl,cq,ci,cp,cg⟩ ⟨ti,cD,tt,tl,uD,tg⟩=lftD ⟨ck,cs,ct,cl,cq,ci,cp,cg⟩ ⟨ti,cD,tt,tl,uD,tg⟩):=by show _ = _;unfold takD;rw[if_neg h0];simp only[O HFS,hme];rfl
    clear h0 hme p0 p1 p2 p3 p4 p5;have hsf:=sfl;have c4:=J (O uE).box 4 rfl;have c5:=J (O uE).box 5 rfl;have c6:=J (O uE).box 6 rfl;have c7:=J (O uE).box 7 rfl;have c8:=J (O uE).box 8 rfl;have c9:=J (O uE).box 9 rfl;go_wp2_with fail;refine(iI ⟨ck,cs,ct,cl,cq,ci,cp,cg⟩ ya).mono ?_;rintro e w5 ⟨rfl,uj⟩;have qb:=U (zl (O qz) uj (by have:=O HZ5;omega));have qS:=U (mf (O uY) uj);clear uj c4 c5 c6 c7 c8 c9 qz uY uE;obtain ⟨z0,z1,z2,z3,z4⟩:=q0_5 (O qb) rfl;obtain ⟨f0,f1,f2,f3,f4⟩:=r0_5 (O qb) rfl;have HQ:Hid (lftD ⟨ck,cs,ct,cl,cq,ci,cp,cg⟩ ⟨ti,cD,tt,tl,uD,tg⟩=if dj ct=true then⟨4,ti,0,tl,0⟩ else⟨5,ti,0,tl,0⟩):=rfl
    cases kn:dj ct
    ·have HQ2:Hid (lftD ⟨ck,cs,ct,cl,cq,ci,cp,cg⟩ ⟨ti,cD,tt,tl,uD,tg⟩=⟨5,ti,0,tl,0⟩):=by show _ = _;rw[O HQ,kn];rfl
     clear kn HQ;go_wp2_with fail
     try simp +zetaDelta only[Exit.noGoto_ret]
     change bodyPost _ _ _ _ _ (World.setCells w5 w.heap.size 0 [H 5,H ti,H 0,H tl,H 0]);have xr:Hid ((World.setCells w5 w.heap.size 0 [H 5,H ti,H 0,H tl,H 0]).rangeAt w.heap.size 0 [H 5,H ti,H 0,H tl,H 0]/\yp w (World.setCells w5 w.heap.size 0 [H 5,H ti,H 0,H tl,H 0])):=⟨(zy (O qb) (by simp only[List.length_cons,List.length_nil])).r,zj w.heap.size yb [H 5,H ti,H 0,H tl,H 0] 0 w5 (O qS)⟩;generalize World.setCells w5 w.heap.size 0 [H 5,H ti,H 0,H tl,H 0]=WE at xr |-;obtain⟨d0,d1,d2,d3,d4⟩:=yC (O xr).1
     try simp only[Exit.inBlock,Exit.then]
     refine bodyPost_ret (by simp[results,Tryz.results131,go_sem,d0,d1,d2,d3,d4];try rfl) rfl ?_;exact⟨by rw[O HD,O HQ2];rfl,(O xr).2⟩
    ·have HQ2:Hid (lftD ⟨ck,cs,ct,cl,cq,ci,cp,cg⟩ ⟨ti,cD,tt,tl,uD,tg⟩=⟨4,ti,0,tl,0⟩):=by show _ = _;rw[O HQ,kn];rfl
     clear kn HQ;go_wp2_with fail
     try simp +zetaDelta only[Exit.noGoto_ret]
     change bodyPost _ _ _ _ _ (World.setCells w5 w.heap.size 0 [H 4,H ti,H 0,H tl,H 0]);have xr:Hid ((World.setCells w5 w.heap.size 0 [H 4,H ti,H 0,H tl,H 0]).rangeAt w.heap.size 0 [H 4,H ti,H 0,H tl,H 0]/\yp w (World.setCells w5 w.heap.size 0 [H 4,H ti,H 0,H tl,H 0])):=⟨(zy (O qb) (by simp only[List.length_cons,List.length_nil])).r,zj w.heap.size yb [H 4,H ti,H 0,H tl,H 0] 0 w5 (O qS)⟩;generalize World.setCells w5 w.heap.size 0 [H 4,H ti,H 0,H tl,H 0]=WE at xr |-;obtain⟨d0,d1,d2,d3,d4⟩:=yC (O xr).1
     try simp only[Exit.inBlock,Exit.then]
     refine bodyPost_ret (by simp[results,Tryz.results131,go_sem,d0,d1,d2,d3,d4];try rfl) rfl ?_;exact⟨by rw[O HD,O HQ2];rfl,(O xr).2⟩
   ·have HD:Hid (takD l ⟨ck,cs,ct,cl,cq,ci,cp,cg⟩ ⟨ti,cD,tt,tl,uD,tg⟩=⟨3,ti,x.id,min tl x.left,x.ticks⟩):=by show _ = _;unfold takD;rw[if_neg h0];simp only[O HFS,hme];rfl
    clear h0 hme uE;generalize hq:min tl x.left=qty at HD
    have hmin:∀W,(Builtin.min_ #[3,3] 3 #[H tl,H x.left]).run Tryz.prog W = .ok (H qty) W:=fun W=>by
     rw[<- hq]
     by_cases uJ:tl<=x.left
     ·rw[Int.min_eq_left uJ];go_simp;omega
     ·rw[Int.min_eq_right (by omega)];go_simp
    clear hq;obtain ⟨z0,z1,z2,z3,z4⟩:=q0_5 (O qz) rfl;obtain ⟨f0,f1,f2,f3,f4⟩:=r0_5 (O qz) rfl;go_wp2_with fail
    try simp +zetaDelta only[Exit.noGoto_ret]
    change bodyPost _ _ _ _ _ (World.setCells ya w.heap.size 0 [H 3,H ti,H x.id,H qty,H x.ticks]);have xr:Hid ((World.setCells ya w.heap.size 0 [H 3,H ti,H x.id,H qty,H x.ticks]).rangeAt w.heap.size 0 [H 3,H ti,H x.id,H qty,H x.ticks]/\yp w (World.setCells ya w.heap.size 0 [H 3,H ti,H x.id,H qty,H x.ticks])):=⟨(zy (O qz) (by simp only[List.length_cons,List.length_nil])).r,zj w.heap.size yb [H 3,H ti,H x.id,H qty,H x.ticks] 0 ya (O uY)⟩;generalize World.setCells ya w.heap.size 0 [H 3,H ti,H x.id,H qty,H x.ticks]=WE at xr |-;obtain⟨d0,d1,d2,d3,d4⟩:=yC (O xr).1
    try simp only[Exit.inBlock,Exit.then]
    refine bodyPost_ret (by simp[results,Tryz.results131,go_sem,d0,d1,d2,d3,d4];try rfl) rfl ?_;exact⟨by rw[O HD];rfl,(O xr).2⟩
 ·rintro xx md V i op ⟨f,rfl,xl,hD⟩ xo hx D xA X
  have oN:i≠15->i<17->¬ xx[17]? = some true:=fun xE xK kz=>by
   have h16:=yh xo 17 rfl kz 16 rfl;have bQ:=yh xo 17 rfl kz 14 rfl;have pM:=yh xo 14 rfl bQ 13 rfl;have qP:=yh xo 13 rfl pM 12 rfl;have jS:=yh xo 12 rfl qP 11 rfl;have vj:=yh xo 11 rfl jS 10 rfl;have I:=yh xo 10 rfl vj 3 rfl;have h9:=yh xo 10 rfl vj 9 rfl;have Q:=yh xo 3 rfl I 2 rfl;have Z:=yh xo 2 rfl Q 1 rfl;have h0:=yh xo 1 rfl Z 0 rfl;have h8:=yh xo 9 rfl h9 8 rfl;have h7:=yh xo 8 rfl h8 7 rfl;have h6:=yh xo 7 rfl h7 6 rfl;have h5:=yh xo 6 rfl h6 5 rfl;have h4:=yh xo 5 rfl h5 4 rfl
   have qW:∀j,j≠15->j<17->xx[j]? = some true:=fun j ax hj=>by
    rcases(by omega:j=0\/j=1\/j=2\/j=3\/j=4\/j=5\/j=6\/j=7\/j=8\/j=9\/j=10\/j=11\/j=12\/j=13\/j=14\/j=16) with rfl|rfl|rfl|rfl|rfl|rfl|rfl|rfl|rfl|rfl|rfl|rfl|rfl|rfl|rfl|rfl <;> assumption
   rw[qW i xE xK] at xA;cases xA
  clear xo;have xI:=U xl;have HD:=U hD;have HRV:=U (zq (O vv) xl yb);have xm:∀(p:Addr) u,xh.cell? p=some u->V.cell? p=some u:=fun p u hu=>(xl.cell (yL xh _ hu)).trans hu
  match i,D with
  | 0,D|4,D =>
   cases D;clear X hD xl xm;go_simp;exact⟨upd f _ (h3 G 0),by simp[upd],zx (O xI) (O HD) (by decide) ⟨fun h=>absurd h (by decide),fun h=>absurd h (by decide),fun h=>absurd h (by decide),yj rfl⟩⟩
  | 1,D =>
   cases D;have g0:=(hD 0 (yf X 0 rfl)).2.2.2 _ rfl;clear X hD xl xm;go_simp;exact⟨upd f 1 (h3 G 0),by simp[upd,g0],zx (O xI) (O HD) (by decide) ⟨fun h=>absurd h (by decide),fun h=>absurd h (by decide),fun h=>absurd h (by decide),yj rfl⟩⟩
  | 2,D =>
   cases D;have g1:=(hD 1 (yf X 1 rfl)).2.2.2 _ rfl;clear X hD xl xm;go_simp;exact⟨upd f 2 (h3 G 1),by simp[upd,g1],zx (O xI) (O HD) (by decide) ⟨fun h=>absurd h (by decide),fun h=>absurd h (by decide),fun h=>absurd h (by decide),yj rfl⟩⟩
  | 3,D =>
   cases D;have g2:=(hD 2 (yf X 2 rfl)).2.2.2 _ rfl;have z1:=xm (Y G 1) _ (O HC1);have z2:=xm (Y G 2) _ (O HC2);clear X hD xl xm;go_simp;exact⟨upd f 3 (.agg #[H nx,vq]),by simp[upd,g2],zx (O xI) (O HD) (by decide) ⟨fun h=>absurd h (by decide),fun h=>absurd h (by decide),fun h=>absurd h (by decide),yj rfl⟩⟩
  | 5,D =>
   cases D;have g4:=(hD 4 (yf X 4 rfl)).2.2.2 _ rfl;clear X hD xl xm;go_simp;exact⟨upd f 5 (h3 G 0),by simp[upd,g4],zx (O xI) (O HD) (by decide) ⟨fun h=>absurd h (by decide),fun h=>absurd h (by decide),fun h=>absurd h (by decide),yj rfl⟩⟩
  | 6,D =>
   cases D;have g5:=(hD 5 (yf X 5 rfl)).2.2.2 _ rfl;clear X hD xl xm;go_simp;exact⟨upd f 6 (h3 G 4),by simp[upd,g5],zx (O xI) (O HD) (by decide) ⟨fun h=>absurd h (by decide),fun h=>absurd h (by decide),fun h=>absurd h (by decide),yj rfl⟩⟩
  | 7,D =>
   cases D;have g6:=(hD 6 (yf X 6 rfl)).2.2.2 _ rfl;clear X hD xl xm;go_simp;exact⟨upd f 7 (h3 G 4),by simp[upd,g6],zx (O xI) (O HD) (by decide) ⟨fun h=>absurd h (by decide),fun h=>absurd h (by decide),fun h=>absurd h (by decide),yj rfl⟩⟩
  | 8,D =>
   cases D;have g7:=(hD 7 (yf X 7 rfl)).2.2.2 _ rfl;have z4:=xm (Y G 4) _ (O ja);clear X hD xl xm;go_simp;exact⟨upd f 8 (H cs),by simp[upd,g7],zx (O xI) (O HD) (by decide) ⟨fun h=>absurd h (by decide),fun h=>absurd h (by decide),fun h=>absurd h (by decide),yj rfl⟩⟩
  | 9,D =>
   cases D;have g8:=(hD 8 (yf X 8 rfl)).2.2.2 _ rfl;clear X hD xl xm;go_simp;refine(otherSide_any cs V).mono ?_;rw[O bF];rintro e w4 ⟨rfl,rfl⟩;exact⟨upd f 9 (H sd),by simp[upd,g8],zx (O xI) (O HD) (by decide) ⟨fun h=>absurd h (by decide),fun h=>absurd h (by decide),fun h=>absurd h (by decide),yj rfl⟩⟩
  | 10,D =>
   cases D;have g3:=(hD 3 (yf X 3 rfl)).2.2.2 _ rfl;have g9:=(hD 9 (yf X 9 rfl)).2.2.2 _ rfl;have ka:=oN (by omega) (by omega);clear X hD xl xm;go_simp
   by_cases uF:sd=1
   ·subst uF;refine(lE nx _ l V (O HRV) (O kK).len (O aP)).mono ?_;rintro e w4 ⟨b,rfl,ht,uJ,xF⟩;exact⟨upd f 10 (fj b),by simp[upd,g3,g9],eX (O xI) (O HD) xF (by decide) (dtk_grow ka xF) ⟨fun _ _=>.inl ⟨rfl,b,rfl,ht⟩,fun h=>absurd h (by decide),fun h=>absurd h (by decide),fun u hu=>by cases hu⟩⟩
   ·skip
    refine(ly nx sd uF _ l V (O HRV) (O kK).len (O aP)).mono ?_;rintro e w4 ⟨b,rfl,ht,uJ,xF⟩;exact⟨upd f 10 (fm b),by simp[upd,g3,g9],eX (O xI) (O HD) xF (by decide) (dtk_grow ka xF) ⟨fun _ _=>.inr ⟨uF,b,rfl,ht⟩,fun h=>absurd h (by decide),fun h=>absurd h (by decide),fun u hu=>by cases hu⟩⟩
  | 11,D =>
   cases D;have ka:=oN (by omega) (by omega);rcases(hD 10 (yf X 10 rfl)).1 rfl ka with⟨uF,b,kN,ht⟩|⟨uF,b,kN,ht⟩
   ·subst uF;have HT:=U ht;have hfl:=field0_bm b V;clear X hD xl xm ht;go_simp;exact⟨upd f 11 (.func (.func 166) #[h3 b 0] #[]),by simp[upd,kN],zx (O xI) (O HD) (by decide) ⟨fun h=>absurd h (by decide),fun _ _=>.inl ⟨rfl,b,rfl,O HT⟩,fun h=>absurd h (by decide),fun u hu=>by cases hu⟩⟩
   ·skip
    have HT:=U ht;have hfl:=field0_sm b V;clear X hD xl xm ht;go_simp;exact⟨upd f 11 (.func (.func 170) #[h3 b 0] #[]),by simp[upd,kN],zx (O xI) (O HD) (by decide) ⟨fun h=>absurd h (by decide),fun _ _=>.inr ⟨uF,b,rfl,O HT⟩,fun h=>absurd h (by decide),fun u hu=>by cases hu⟩⟩
  | 12,D =>
   cases D;have ka:=oN (by omega) (by omega);rcases(hD 11 (yf X 11 rfl)).2.1 rfl ka with⟨uF,b,jR,ht⟩|⟨uF,b,jR,ht⟩
   ·subst uF;have HT:=U ht;have HE:Hid (frOf (quOf true (zC l 1)) = .tuple #[.agg (yx x.id x.side x.ticks x.left x.life x.tag).toArray,.bool fb]):=by show _ = _;have:=O bp;simpa using this
    clear X hD xl xm ht;go_simp;refine(front_b b 1 (zC l 1) V (O HT) (yO (List.length_filter_le _ _) (O kK).len)).mono ?_;rw[O HE];rintro e w4 ⟨rfl,xF⟩;exact⟨upd f 12 (.tuple #[.agg (yx x.id x.side x.ticks x.left x.life x.tag).toArray,.bool fb]),by simp[upd,jR],eX (O xI) (O HD) xF (by decide) (dtk_grow ka xF) ⟨fun h=>absurd h (by decide),fun h=>absurd h (by decide),fun h=>absurd h (by decide),yj rfl⟩⟩
   ·skip
    have HT:=U ht;have HE:Hid (frOf (quOf false (zC l sd)) = .tuple #[.agg (yx x.id x.side x.ticks x.left x.life x.tag).toArray,.bool fb]):=by show _ = _;have:=O bp;rw[decide_eq_false uF] at this;exact this
    clear X hD xl xm ht;go_simp;refine(front_s b sd (zC l sd) V (O HT) (yO (List.length_filter_le _ _) (O kK).len)).mono ?_;rw[O HE];rintro e w4 ⟨rfl,xF⟩;exact⟨upd f 12 (.tuple #[.agg (yx x.id x.side x.ticks x.left x.life x.tag).toArray,.bool fb]),by simp[upd,jR],eX (O xI) (O HD) xF (by decide) (dtk_grow ka xF) ⟨fun h=>absurd h (by decide),fun h=>absurd h (by decide),fun h=>absurd h (by decide),yj rfl⟩⟩
  | 13,D =>
   cases D;have ql:=(hD 12 (yf X 12 rfl)).2.2.2 _ rfl;clear X hD xl xm;go_simp;exact⟨upd f 13 (.tuple #[.agg (yx x.id x.side x.ticks x.left x.life x.tag).toArray,.bool fb]),by simp[upd,ql],zx (O xI) (O HD) (by decide) ⟨fun h=>absurd h (by decide),fun h=>absurd h (by decide),fun h=>absurd h (by decide),yj rfl⟩⟩
  | 14,D =>
   cases D;have pA:=(hD 13 (yf X 13 rfl)).2.2.2 _ rfl;clear X hD xl xm;go_simp;exact⟨upd f 14 (.agg (yx x.id x.side x.ticks x.left x.life x.tag).toArray),by simp[upd,pA],zx (O xI) (O HD) (by decide) ⟨fun h=>absurd h (by decide),fun h=>absurd h (by decide),fun h=>absurd h (by decide),yj rfl⟩⟩
  | 15,D =>
   cases D;have pA:=(hD 13 (yf X 13 rfl)).2.2.2 _ rfl;clear X hD xl xm;go_simp;exact⟨upd f 15 (.bool fb),by simp[upd,pA],zx (O xI) (O HD) (by decide) ⟨fun h=>absurd h (by decide),fun h=>absurd h (by decide),fun h=>absurd h (by decide),yj rfl⟩⟩
  | 16,D =>
   cases D;have ka:=oN (by omega) (by omega);clear X hD xl xm;go_simp;have xF:=mc V (me (yx 0 0 0 0 0 ⟨#[]⟩).toArray 71);exact⟨upd f 16 (h3 V.heap.size 0),by simp[upd],eX (O xI) (O HD) xF (by decide) (dtk_grow ka xF) ⟨fun h=>absurd h (by decide),fun h=>absurd h (by decide),fun _=>⟨V.heap.size,rfl,(O xI).size,fun _=>⟨zM V (yx 0 0 0 0 0 ⟨#[]⟩) _,by rw[zi];omega⟩,fun h=>absurd h ka⟩,fun u hu=>by cases hu⟩⟩
  | 17,D =>
   cases D;have ka:¬ xx[17]? = some true:=by rw[xA];simp
   have bP:=(hD 14 (yf X 14 rfl)).2.2.2 _ rfl;obtain⟨pb,g16,hpb,xU,-⟩:=(hD 16 (yf X 16 rfl)).2.2.1 rfl;obtain⟨xU,cf⟩:=xU ka;have pY:=U xU;obtain⟨u0,y0,q0⟩:=zN xU 0 (by omega);obtain⟨u1,y1,q1⟩:=zN xU 1 (by omega);obtain⟨u2,y2,q2⟩:=zN xU 2 (by omega);obtain⟨u3,y3,q3⟩:=zN xU 3 (by omega);obtain⟨u4,y4,q4⟩:=zN xU 4 (by omega);obtain⟨u5,y5,q5⟩:=zN xU 5 (by omega);simp only[Nat.zero_add] at y0 q0 y1 q1 y2 q2 y3 q3 y4 q4 y5 q5;clear xU;clear X hD xl xm;go_simp;refine⟨upd f 17 M,by simp[upd,bP,g16],rgx_last (zj pb hpb (yx x.id x.side x.ticks x.left x.life x.tag) 0 V (O xI)) (O HD) xA (fun j hj hxj h=>dtk_last j h (fun hj16=>?_)) ⟨fun h=>absurd h (by decide),fun h=>absurd h (by decide),fun h=>absurd h (by decide),fun u hu=>by cases hu⟩⟩;rw[hj16];refine⟨pb,g16,hpb,fun h=>absurd trivial h,fun _=>⟨?_,?_⟩⟩
   ·exact yY V pb 0 (yx x.id x.side x.ticks x.left x.life x.tag) (fun j hj=>O pY j hj)
   ·show pb<(V.setCells pb 0 (yx x.id x.side x.ticks x.left x.life x.tag)).heap.size;simp only[World.setCells,World.setCell,Array.size_modify];exact cf
  | 18,D =>
   cases D;have g15:=(hD 15 (yf X 15 rfl)).2.2.2 _ rfl;clear X hD xl xm;go_simp;exact⟨upd f 18 (.bool fb),by simp[upd,g15],zx (O xI) (O HD) (by decide) ⟨fun h=>absurd h (by decide),fun h=>absurd h (by decide),fun h=>absurd h (by decide),yj rfl⟩⟩
  | i+19,D=>simp at D
theorem due_any {G B r:Nat}{vq:Value}{g:Gr}(w:World)(h:GS G B r w vq g)(hi:GI g):Calls Tryz.prog 106 #[h3 G 0] w fun e w'=>e = .returned (duV (dueG g))/\yp w w':=by
 have hsf:=sfl;have hG:=h.lt;obtain⟨xS,HX⟩:=mh w [H 0,H 0,H 0,H 0,H 0] 167;have HS:Hid ((w.alloc (me #[H 0,H 0,H 0,H 0,H 0] 167)).heap.size=w.heap.size+1):=by show _ = _;simp
 have HG:=U (zw h xS);have HB:=U xS;have HI:=U hi;clear h xS hi;go_enter Tryz.func106,Tryz.ntmps106;refine mg fun hb HK=>?_;go_wp2_with fail;refine O HK _ _ ?_;clear HK;generalize (w.alloc (me #[H 0,H 0,H 0,H 0,H 0] 167))=W1 at HX HS HG HB |-;have c3:W1.cell? (Y G 3)=some (H g.bg):=J (O HG).box 3 rfl
 by_cases Z:g.bg=1
 ·have HQ:Hid (duV (dueG g)=duV (takD g.l g.cm g.tk)):=by show _ = _;unfold dueG;rw[if_pos Z]
  have b1:(g.bg==1)=true:=by simpa using Z
  clear Z;go_wp2_with fail;refine(takerDue_any W1 (O HG) (O HI).l0 (fun h0=>(O HI).good (.inr h0))).mono ?_;rintro e w2 ⟨rfl,xy⟩;have xR:=U (zl (O HX) xy (by have:=O HS;omega));have xz:=U (mf (O HB) xy);clear xy c3;generalize hd:takD g.l g.cm g.tk=d at HQ |-;clear hd;obtain⟨dk,di,dt,dq,dp⟩:=d;unfold duV at HQ |-;simp only at HQ |-;obtain ⟨z0,z1,z2,z3,z4⟩:=q0_5 (O xR) rfl;obtain ⟨f0,f1,f2,f3,f4⟩:=r0_5 (O xR) rfl;go_wp2_with fail
  try simp +zetaDelta only[Exit.noGoto_ret]
  change bodyPost _ _ _ _ _ (World.setCells w2 w.heap.size 0 [H dk,H di,H dt,H dq,H dp]);have xr:Hid ((World.setCells w2 w.heap.size 0 [H dk,H di,H dt,H dq,H dp]).rangeAt w.heap.size 0 [H dk,H di,H dt,H dq,H dp]/\yp w (World.setCells w2 w.heap.size 0 [H dk,H di,H dt,H dq,H dp])):=⟨(zy (O xR) (by simp only[List.length_cons,List.length_nil])).r,zj w.heap.size (by omega) [H dk,H di,H dt,H dq,H dp] 0 w2 (O xz)⟩;generalize World.setCells w2 w.heap.size 0 [H dk,H di,H dt,H dq,H dp]=WE at xr |-;obtain⟨d0,d1,d2,d3,d4⟩:=yC (O xr).1
  try simp only[Exit.inBlock,Exit.then]
  refine bodyPost_ret (by simp[results,Tryz.results106,go_sem,d0,d1,d2,d3,d4];try rfl) rfl ?_;exact⟨congrArg Ending.returned (O HQ).symm,(O xr).2⟩
 ·have b1:(g.bg==1)=false:=by simpa using Z
  by_cases h8:g.bg=8
  ·have HQ:Hid (duV (dueG g)=duV (dayD g.l)):=by show _ = _;unfold dueG;rw[if_neg Z,if_pos h8]
   have b8:(g.bg==8)=true:=by simpa using h8
   clear Z h8;go_wp2_with fail;refine(dayDue_any W1 (O HG) (yO (O HI).len (by decide))).mono ?_;rintro e w2 ⟨rfl,xy⟩;have xR:=U (zl (O HX) xy (by have:=O HS;omega));have xz:=U (mf (O HB) xy);clear xy c3;generalize hd:dayD g.l=d at HQ |-;clear hd;obtain⟨dk,di,dt,dq,dp⟩:=d;unfold duV at HQ |-;simp only at HQ |-;obtain ⟨z0,z1,z2,z3,z4⟩:=q0_5 (O xR) rfl;obtain ⟨f0,f1,f2,f3,f4⟩:=r0_5 (O xR) rfl;go_wp2_with fail
   try simp +zetaDelta only[Exit.noGoto_ret]
   change bodyPost _ _ _ _ _ (World.setCells w2 w.heap.size 0 [H dk,H di,H dt,H dq,H dp]);have xr:Hid ((World.setCells w2 w.heap.size 0 [H dk,H di,H dt,H dq,H dp]).rangeAt w.heap.size 0 [H dk,H di,H dt,H dq,H dp]/\yp w (World.setCells w2 w.heap.size 0 [H dk,H di,H dt,H dq,H dp])):=⟨(zy (O xR) (by simp only[List.length_cons,List.length_nil])).r,zj w.heap.size (by omega) [H dk,H di,H dt,H dq,H dp] 0 w2 (O xz)⟩;generalize World.setCells w2 w.heap.size 0 [H dk,H di,H dt,H dq,H dp]=WE at xr |-;obtain⟨d0,d1,d2,d3,d4⟩:=yC (O xr).1
   try simp only[Exit.inBlock,Exit.then]
   refine bodyPost_ret (by simp[results,Tryz.results106,go_sem,d0,d1,d2,d3,d4];try rfl) rfl ?_;exact⟨congrArg Ending.returned (O HQ).symm,(O xr).2⟩
  ·have HQ:Hid (dueG g=zDu):=by show _ = _;unfold dueG;rw[if_neg Z,if_neg h8]
   have b8:(g.bg==8)=false:=by simpa using h8
   clear Z h8;obtain ⟨z0,z1,z2,z3,z4⟩:=q0_5 (O HX) rfl;obtain ⟨f0,f1,f2,f3,f4⟩:=r0_5 (O HX) rfl;go_wp2_with fail
   try simp +zetaDelta only[Exit.noGoto_ret]
   change bodyPost _ _ _ _ _ (World.setCells W1 w.heap.size 0 [H 0,H 0,H 0,H 0,H 0]);have xr:Hid ((World.setCells W1 w.heap.size 0 [H 0,H 0,H 0,H 0,H 0]).rangeAt w.heap.size 0 [H 0,H 0,H 0,H 0,H 0]/\yp w (World.setCells W1 w.heap.size 0 [H 0,H 0,H 0,H 0,H 0])):=⟨(zy (O HX) (by simp only[List.length_cons,List.length_nil])).r,zj w.heap.size (by omega) [H 0,H 0,H 0,H 0,H 0] 0 W1 (O HB)⟩;generalize World.setCells W1 w.heap.size 0 [H 0,H 0,H 0,H 0,H 0]=WE at xr |-;obtain⟨d0,d1,d2,d3,d4⟩:=yC (O xr).1
   try simp only[Exit.inBlock,Exit.then]
   refine bodyPost_ret (by simp[results,Tryz.results106,go_sem,d0,d1,d2,d3,d4];try rfl) rfl ?_;exact⟨by rw[O HQ];rfl,(O xr).2⟩
def outR (k:Int):Ending:=if k=0 then .returned (.tuple #[]) else .panicked (brk k)
theorem outR_ok {k:Int}(h:k=0):outR k = .returned (.tuple #[]):=if_pos h
theorem outR_no {k:Int}(h:k≠0):outR k = .panicked (brk k):=if_neg h
theorem toldE_size {e:Ev}(F:e.cmd.g.size<=maxLen):(da e).g.size<=maxLen:=by
 have hz:(⟨#[]⟩:ByteArray).size<=maxLen:=by decide
 unfold da zCm
 repeat' split
 all_goals first|exact F|exact hz
theorem start_any {G B r:Nat}{vq:Value}{g:Gr}(e:Ev)(w:World)(h:GS G B r w vq g)(hi:GI g)(E:1<=e.kind/\e.kind<=9)(F:e.cmd.g.size<=maxLen):Calls Tryz.prog 118 #[h3 G 0,evV e] w fun x w'=>x=outR (df g e)/\yp w w':=by
 have hsf:=sfl;have hG:=h.lt;have qK:=U (fun W=>toldCmd_any e W E);have HTS:=U (toldE_size F);have vS:Hid (df g e=if g.bg≠0 then 3 else if refR g.nx g.l (da e)≠0 then 5 else 0):=rfl
 generalize da e=c at qK HTS vS;generalize iw e.kind=sb at qK;generalize df g e=sr at vS |-;obtain⟨xn,⟨ck,cs,ct,cl,cq,ci,cp,cg⟩,id,xj,qty,xk,xi⟩:=e;unfold evV at qK |-;simp only at qK |-;obtain⟨xS,HX⟩:=mh w (yw xn ck cs ct cl cq ci cp cg id xj qty xk xi) 78;have HS:Hid ((w.alloc (me (yw xn ck cs ct cl cq ci cp cg id xj qty xk xi).toArray 78)).heap.size=w.heap.size+1):=by show _ = _;simp
 have HG:=U (zw h xS);have HB:=U xS;have HI:=U hi;clear h xS hi E F;go_enter Tryz.func118,Tryz.ntmps118;refine mg fun hb HK=>?_;go_wp2_with fail;refine O HK _ _ ?_;clear HK;generalize (w.alloc (me (yw xn ck cs ct cl cq ci cp cg id xj qty xk xi).toArray 78))=W1 at HS HX HG HB |-;have c3:W1.cell? (Y G 3)=some (H g.bg):=J (O HG).box 3 rfl
 by_cases h0:g.bg=0
 ·have b0:(g.bg==0)=true:=by simpa using h0
  have kK:=U ((O HI).good (.inl (by omega)));have uM:=U ((O HI).start h0);have kV:Hid (sr=if refR g.nx g.l c≠0 then 5 else 0):=by show _ = _;rw[O vS,if_neg (by simpa using h0)]
  clear h0 vS;go_wp2_with fail;refine(eB 3 _).mono ?_;rintro e w2 ⟨rfl,rfl⟩;clear c3 b0;obtain⟨e0,e1,e2,e3,e4,e5,e6,e7,e8,e9,vQ,vY,qq,qF⟩:=yz (O HX);go_wp2_with fail;refine(O qK w2).mono ?_;rintro e w3 ⟨rfl,xV⟩;have uL:=U (zw (O HG) xV);have xL:=U (mf (O HB) xV);clear e0 e1 e2 e3 e4 e5 e6 e7 e8 e9 vQ vY qq qF xV;obtain⟨dk,ds,dt,dl,dq,di,dp,dg⟩:=c;unfold cmV;simp only;obtain⟨xF,xH⟩:=mh w3 (yy dk ds dt dl dq di dp dg) 37;have uX:=U (zw (O uL) xF);have xQ:=U (mf (O xL) xF);clear xF uL xL;have HZ4:Hid (w3.heap.size<(w3.alloc (me (yy dk ds dt dl dq di dp dg).toArray 37)).heap.size):=by show _ < _;simp
  go_wp2_with fail;generalize (w3.alloc (me (yy dk ds dt dl dq di dp dg).toArray 37))=xh at xH uX xQ HZ4 |-;have vT:Hid (Bx xh.drew w3.heap.size (yy dk ds dt dl dq di dp dg)):=dK (O xH);have qf:Hid (GS G B r xh.drew vq g):=zw (O uX) ⟨rfl,rfl,rfl,Nat.le_refl _,fun _ _=>rfl⟩;have kJ:Hid (yp w xh.drew):=⟨(O xQ).os,(O xQ).tape,(O xQ).output,(O xQ).size,(O xQ).block⟩;clear xH uX xQ HX;obtain⟨d0,d1,d2,d3,d4,d5,d6,d7⟩:=yA (O vT);have c1:xh.drew.cell? (Y G 1)=some (H g.nx):=J (O qf).box 1 rfl;have c2:xh.drew.cell? (Y G 2)=some vq:=J (O qf).box 2 rfl;have qj:=U (zZ (O qf).row (yO (O HI).len (by decide)));have qJ:=U (iq (O qf).row);refine ff 5 (by kernel_rfl) (by kernel_rfl) ?_;simp only[yU,List.take_zero,yV,List.drop_zero]
  repeat still_step
  refine wpStill_nil ?_;clear d0 d1 d2 d3 d4 d5 d6 d7 c1 c2;go_wp2_with fail;refine(refusal_any g.nx vq g.l ⟨dk,ds,dt,dl,dq,di,dp,dg⟩ xh.drew (O qj) (O qJ) (O kK) (O uM).1 (O uM).2.1 (O HTS)).mono ?_;rintro e w5 ⟨rfl,uj⟩;have uY:=U (mf (O kJ) uj);clear uj;generalize refR g.nx g.l ⟨dk,ds,dt,dl,dq,di,dp,dg⟩=rr at kV |-
  by_cases jM:rr=0
  ·have b1:(rr==0)=true:=by simpa using jM
   have jz:Hid (sr=0):=by show _ = _;rw[O kV,if_neg (by simpa using jM)]
   clear jM;go_wp2_with fail;refine(eB 5 _).mono ?_;rintro e w6 ⟨rfl,rfl⟩;go_wp2_with fail;go_end0;exact⟨by rw[O jz];rfl,O uY⟩
  ·have b1:(rr==0)=false:=by simpa using jM
   have jz:Hid (sr=5):=by show _ = _;rw[O kV,if_pos jM]
   clear jM;go_wp2_with fail;refine(eh 5 _).mono ?_;rintro e w6 ⟨rfl,rfl⟩;go_wp2_with fail;exact⟨rfl,by rw[O jz];rfl,O uY⟩
 ·have b0:(g.bg==0)=false:=by simpa using h0
  have kV:Hid (sr=3):=by show _ = _;rw[O vS,if_pos h0]
  clear h0;go_wp2_with fail;refine(eh 3 _).mono ?_;rintro e w2 ⟨rfl,rfl⟩;go_wp2_with fail;exact⟨rfl,by rw[O kV];rfl,O HB⟩
end Go.Proofs.YtkofhemdefffpaaGreatDoor
