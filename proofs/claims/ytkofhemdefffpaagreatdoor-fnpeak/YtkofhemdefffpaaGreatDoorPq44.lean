/-.-/
import Derived.Test.YtkofhemdefffpaaGreatDoorPq41
import Derived.Test.YtkofhemdefffpaaGreatDoorPq43
set_option linter.unusedVariables false
set_option maxHeartbeats 6400000
set_option maxRecDepth 100000
namespace Go.Proofs.YtkofhemdefffpaaGreatDoor
open Go.RowKit

theorem l01Bits_any (x:Nat)(w:World) :
  Calls Tryz.prog 87 #[yk x] w fun e w'=>e=yn (.int .u64 (fbit x))/\w'=w:=by
 have K:=fbits;cases h:nanB x with
 | true =>
  have HF:=U (show fbit x=9221120237041090560 from if_pos h);have h':(FloatKind.f64.format.order x x != some Ordering.eq)=true:=h;clear h;go_enter Tryz.func87,Tryz.ntmps87;go_wp2;go_ret;exact⟨zt (by rw[O HF];rfl),rfl⟩
 | false =>
  have HF:=U (show fbit x=x from if_neg (by rw[h];decide));have h':(FloatKind.f64.format.order x x != some Ordering.eq)=false:=h;clear h;go_enter Tryz.func87,Tryz.ntmps87;go_wp2;go_ret;exact⟨zt (by rw[O HF]),rfl⟩
theorem l01Float_any (x:Nat)(w:World) :
  Calls Tryz.prog 63 #[yk x] w fun e w'=>∃v,e=yn v/\OwnT w.heap.size w' v (fl8 (fbit x))/\yp w w':=by
 obtain⟨i0,hi,ub,xX,uh⟩:=info_parts Tryz.infoByte;have HC:=U (fun w=>l01Bits_any x w);generalize fbit x=u at *;go_enter Tryz.func63,Tryz.ntmps63;go_wp2_with fail;refine(O HC _).mono ?_;rintro e w0 ⟨rfl,rfl⟩;go_wp2_with fail;go_loopw [4,5] (fun v i wr=>∃k:Nat,k<=8/\i=H (7-(k:Int))/\wr.ownsRow w0.heap.size 5 1 v ((fl8 u).take k).length (((fl8 u).take k).map (Value.int .u8))/\yp w0 wr/\w0.heap.size<wr.heap.size) (fun _ i _=>(intOf i+1).toNat)
 case atStart=>exact⟨0,by omega,rfl,World.ownsRow_made _ _ _ yb (by decide) rfl,mc _ _,by simp⟩
 case round =>
  obtain⟨k,E,rfl,xu,xl,ko⟩:=hrel;rcases(show k=0\/k=1\/k=2\/k=3\/k=4\/k=5\/k=6\/k=7\/k=8 by omega) with rfl|rfl|rfl|rfl|rfl|rfl|rfl|rfl|rfl
  case inr.inr.inr.inr.inr.inr.inr.inr =>
   go_wp2_with fail;go_ret;exact⟨_,rfl,ownT_row (by simp[fl8]) (by simp[fl8]) (by simpa[fl8] using xu),xl⟩
  ·go_wp2_with (at_builtin;go_must (refine wpList_append_own _ rfl _ _ 22 rfl w0.heap.size 5 i0 (.int .u8 0) 1 1 Tryz.underlying22 hi ub xX uh rfl (by decide) _ _ _ rfl (xu.alloc _) (yr wr 0) 1 1 [_] rfl rfl (cell_one_new _ _ _) (by simp[Value.oneCell']) (by simp[fl8];unfold maxLen;omega) (by simp[fl8]) (by simp;omega) ?_);intro v' w1 vr uq _);go_roundw
   case rel=>exact⟨1,by omega,by go_num,by simpa[fl8] using vr,fV xl xu (by omega) uq,size_push ko uq⟩
   case measure=>simp[intOf]
  ·go_wp2_with (at_builtin;go_must (refine wpList_append_own _ rfl _ _ 22 rfl w0.heap.size 5 i0 (.int .u8 0) 1 1 Tryz.underlying22 hi ub xX uh rfl (by decide) _ _ _ rfl (xu.alloc _) (yr wr 0) 1 1 [_] rfl rfl (cell_one_new _ _ _) (by simp[Value.oneCell']) (by simp[fl8];unfold maxLen;omega) (by simp[fl8]) (by simp;omega) ?_);intro v' w1 vr uq _);go_roundw
   case rel=>exact⟨2,by omega,by go_num,by simpa[fl8] using vr,fV xl xu (by omega) uq,size_push ko uq⟩
   case measure=>simp[intOf]
  ·go_wp2_with (at_builtin;go_must (refine wpList_append_own _ rfl _ _ 22 rfl w0.heap.size 5 i0 (.int .u8 0) 1 1 Tryz.underlying22 hi ub xX uh rfl (by decide) _ _ _ rfl (xu.alloc _) (yr wr 0) 1 1 [_] rfl rfl (cell_one_new _ _ _) (by simp[Value.oneCell']) (by simp[fl8];unfold maxLen;omega) (by simp[fl8]) (by simp;omega) ?_);intro v' w1 vr uq _);go_roundw
   case rel=>exact⟨3,by omega,by go_num,by simpa[fl8] using vr,fV xl xu (by omega) uq,size_push ko uq⟩
   case measure=>simp[intOf]
  ·go_wp2_with (at_builtin;go_must (refine wpList_append_own _ rfl _ _ 22 rfl w0.heap.size 5 i0 (.int .u8 0) 1 1 Tryz.underlying22 hi ub xX uh rfl (by decide) _ _ _ rfl (xu.alloc _) (yr wr 0) 1 1 [_] rfl rfl (cell_one_new _ _ _) (by simp[Value.oneCell']) (by simp[fl8];unfold maxLen;omega) (by simp[fl8]) (by simp;omega) ?_);intro v' w1 vr uq _);go_roundw
   case rel=>exact⟨4,by omega,by go_num,by simpa[fl8] using vr,fV xl xu (by omega) uq,size_push ko uq⟩
   case measure=>simp[intOf]
  ·go_wp2_with (at_builtin;go_must (refine wpList_append_own _ rfl _ _ 22 rfl w0.heap.size 5 i0 (.int .u8 0) 1 1 Tryz.underlying22 hi ub xX uh rfl (by decide) _ _ _ rfl (xu.alloc _) (yr wr 0) 1 1 [_] rfl rfl (cell_one_new _ _ _) (by simp[Value.oneCell']) (by simp[fl8];unfold maxLen;omega) (by simp[fl8]) (by simp;omega) ?_);intro v' w1 vr uq _);go_roundw
   case rel=>exact⟨5,by omega,by go_num,by simpa[fl8] using vr,fV xl xu (by omega) uq,size_push ko uq⟩
   case measure=>simp[intOf]
  ·go_wp2_with (at_builtin;go_must (refine wpList_append_own _ rfl _ _ 22 rfl w0.heap.size 5 i0 (.int .u8 0) 1 1 Tryz.underlying22 hi ub xX uh rfl (by decide) _ _ _ rfl (xu.alloc _) (yr wr 0) 1 1 [_] rfl rfl (cell_one_new _ _ _) (by simp[Value.oneCell']) (by simp[fl8];unfold maxLen;omega) (by simp[fl8]) (by simp;omega) ?_);intro v' w1 vr uq _);go_roundw
   case rel=>exact⟨6,by omega,by go_num,by simpa[fl8] using vr,fV xl xu (by omega) uq,size_push ko uq⟩
   case measure=>simp[intOf]
  ·go_wp2_with (at_builtin;go_must (refine wpList_append_own _ rfl _ _ 22 rfl w0.heap.size 5 i0 (.int .u8 0) 1 1 Tryz.underlying22 hi ub xX uh rfl (by decide) _ _ _ rfl (xu.alloc _) (yr wr 0) 1 1 [_] rfl rfl (cell_one_new _ _ _) (by simp[Value.oneCell']) (by simp[fl8];unfold maxLen;omega) (by simp[fl8]) (by simp;omega) ?_);intro v' w1 vr uq _);go_roundw
   case rel=>exact⟨7,by omega,by go_num,by simpa[fl8] using vr,fV xl xu (by omega) uq,size_push ko uq⟩
   case measure=>simp[intOf]
  ·go_wp2_with (at_builtin;go_must (refine wpList_append_own _ rfl _ _ 22 rfl w0.heap.size 5 i0 (.int .u8 0) 1 1 Tryz.underlying22 hi ub xX uh rfl (by decide) _ _ _ rfl (xu.alloc _) (yr wr 0) 1 1 [_] rfl rfl (cell_one_new _ _ _) (by simp[Value.oneCell']) (by simp[fl8];unfold maxLen;omega) (by simp[fl8]) (by simp;omega) ?_);intro v' w1 vr uq _);go_roundw
   case rel=>exact⟨8,by omega,by go_num,by simpa[fl8] using vr,fV xl xu (by omega) uq,size_push ko uq⟩
   case measure=>simp[intOf]

structure ES (w:World) (es cs:List Value) (ov:Value) (L:List Int) (W:World):Prop where
 r:BRow W w.heap.size ov L
 q:∀q,ov.ownBlock=some q->q≠w.heap.size/\q≠w.heap.size+2
 e:Bx W w.heap.size es
 c:Bx W (w.heap.size+2) cs
 b:Below w.heap.size w W
 z:w.heap.size+3<=W.heap.size
theorem ES.below {w W W':World}{es cs:List Value}{ov:Value}{L:List Int}(h:ES w es cs ov L W)(K:yp W W'):ES w es cs ov L W':=by
 have hz:=h.z;exact⟨zQ h.r K,h.q,zl h.e K (by omega),zl h.c K (by omega),h.b.trans (K.mono (by omega)),yO hz K.size⟩
theorem ES.app {w W W':World}{es cs:List Value}{ov ov':Value}{L ym:List Int}(h:ES w es cs ov L W)(hr:BRow W' w.heap.size ov' ym)(F:W.grownBy W' ov.ownBlock)(ha:ov'.ownBlock=ov.ownBlock\/ov'.ownBlock=some W.heap.size):ES w es cs ov' ym W':=by
 have hz:=h.z;have Z:some w.heap.size≠ov.ownBlock:=fun e=>(h.q _ e.symm).1 rfl;have Q:some (w.heap.size+2)≠ov.ownBlock:=fun e=>(h.q _ e.symm).2 rfl;refine⟨hr,fun q hq=>?_,dm h.e (F.block _ (by omega) Z),dm h.c (F.block _ (by omega) Q),h.b.grown F h.b.size (fun q hq=>(h.r.lt q hq).1),yO hz F.size⟩;rcases ha with ha|ha
 ·exact h.q q (ha ▸ hq)
 ·rw[ha] at hq;have:W.heap.size=q:=by simpa using hq
  omega
def lpB (fs:List Bool)(ns:List Int):Nat->List Int
 | 0=>[]
 | i+1=>if fs.getD i false=true then lpB fs ns i++putU (zz (ns.getD i 0)) else lpB fs ns i
theorem lpB_yes {fs:List Bool}{ns:List Int}{i:Nat}(h:fs.getD i false=true):lpB fs ns (i+1)=lpB fs ns i++putU (zz (ns.getD i 0)):=by rw[lpB,if_pos h]
theorem lpB_no {fs:List Bool}{ns:List Int}{i:Nat}(h:fs.getD i false=false):lpB fs ns (i+1)=lpB fs ns i:=by rw[lpB,if_neg (by rw[h];decide)]
theorem lpB_len (fs:List Bool)(ns:List Int)(hn:∀i,-9223372036854775808<=ns.getD i 0/\ns.getD i 0<=9223372036854775807):∀i,(lpB fs ns i).length<=10*i
 | 0=>by simp[lpB]
 | i+1=>by
  have Z:=lpB_len fs ns hn i;have Q:=zH (zz (ns.getD i 0)) (dy _ (hn i).1 (hn i).2);rw[lpB];split
  ·rw[yQ];omega
  ·omega
theorem nums_bd (e:Ev)(he:e.fit):∀i,-9223372036854775808<=(dw e).getD i 0/\(dw e).getD i 0<=9223372036854775807:=by
 intro i
 match i with
 | 0=>exact he.n 9
 | 1=>exact he.n 10
 | 2=>exact he.n 11
 | 3=>exact he.n 12
 | 4=>exact he.n 13
 | i+5=>simp[dw]
theorem fldK_len2 (k:Int):fldK k = []\/(fldK k).length=5:=by
 unfold fldK
 repeat' split
 all_goals simp
theorem fldK_ne2 (k:Int)(h:1<=k/\k<=9):fldK k ≠ []:=by
 unfold fldK
 repeat' split
 all_goals simp
 all_goals omega
def cmL (e:Ev):List Int:=if e.kind=1 then[2,3,4,5,7,8].flatMap (wrF e) else if e.kind=2 then[1,2,3,4,5,6,7,8].flatMap (wrF e) else[]
theorem enc_eq (e:Ev)(h:1<=e.kind/\e.kind<=9):[e.kind]++cmL e++lpB (fldK e.kind) (dw e) 5=evL e:=by
 obtain⟨xn,⟨ck,cs,ct,cl,cq,ci,cp,cg⟩,id,xj,qty,xk,xi⟩:=e;simp only at h;rcases(show xn=1\/xn=2\/xn=3\/xn=4\/xn=5\/xn=6\/xn=7\/xn=8\/xn=9 by omega) with rfl|rfl|rfl|rfl|rfl|rfl|rfl|rfl|rfl
 all_goals simp[evL,cmL,shF,fldK,lpB,dw,wrF,Ev.num]
structure ES2 (w:World) (es cs:List Value) (hg G:Nat) (fs:List Bool) (ns:List Int) (ov:Value) (L:List Int) (W:World):Prop where
 s:ES w es cs ov L W
 f:Bx W hg (fs.map Value.bool)
 g:Bx W G (ns.map (Value.int .i64))
 q:∀q,ov.ownBlock=some q->q≠hg/\q≠G
 lf:hg<W.heap.size
 lg:G<W.heap.size
theorem ES2.below {w W W':World}{es cs:List Value}{hg G:Nat}{fs:List Bool}{ns:List Int}{ov:Value}{L:List Int}(h:ES2 w es cs hg G fs ns ov L W)(K:yp W W'):ES2 w es cs hg G fs ns ov L W':=
 ⟨h.s.below K,zl h.f K h.lf,zl h.g K h.lg,h.q,yK h.lf K.size,yK h.lg K.size⟩
theorem ES2.app {w W W':World}{es cs:List Value}{hg G:Nat}{fs:List Bool}{ns:List Int}{ov ov':Value}{L ym:List Int}(h:ES2 w es cs hg G fs ns ov L W)(hr:BRow W' w.heap.size ov' ym)(F:W.grownBy W' ov.ownBlock)(ha:ov'.ownBlock=ov.ownBlock\/ov'.ownBlock=some W.heap.size):ES2 w es cs hg G fs ns ov' ym W':=by
 have Z:some hg≠ov.ownBlock:=fun e=>(h.q _ e.symm).1 rfl;have Q:some G≠ov.ownBlock:=fun e=>(h.q _ e.symm).2 rfl;have lf:=h.lf;have lg:=h.lg;refine⟨h.s.app hr F ha,dm h.f (F.block _ lf Z),dm h.g (F.block _ lg Q),fun q hq=>?_,yK lf F.size,yK lg F.size⟩;rcases ha with ha|ha
 ·exact h.q q (ha ▸ hq)
 ·rw[ha] at hq;have:W.heap.size=q:=by simpa using hq
  omega
theorem bx_lt2 {W:World}{b:Nat}{vs:List Value}(h:Bx W b vs)(hl:0<vs.length):b<W.heap.size:=by
 obtain⟨y,hy⟩:=Option.isSome_iff_exists.1 (h.t 0 hl).1;exact yL W _ hy
theorem es2_mk {w W:World}{es cs:List Value}{hg G:Nat}{fs:List Bool}{ns:List Int}{ov:Value}{L:List Int}(s:ES w es cs ov L W)(f:Bx W hg (fs.map Value.bool))(g:Bx W G (ns.map (H)))(q:∀q,ov.ownBlock=some q->q≠hg/\q≠G)(lf:hg<W.heap.size)(lg:G<W.heap.size):ES2 w es cs hg G fs ns ov L W:=⟨s,f,g,q,lf,lg⟩
def NilOk (v:Value):Prop:=∀n c,v = .slice none n c->n=0/\c=0
theorem lF {P:Program}(w:World){cB:Array Oper}{rest:List Oper}{o:Oper}{a:Act}{h2:Exit->Act->World->Prop}(hgd:o.guard=none)(s x:Operand)(t:TypeId)
  (D:o.op = .call { callee:=.builtin .append,args:=#[s,x],argTypes:=#[t,t] })
  (B:Nat) (e:TypeId) (i:TypeInfo) (ht:P.underlying t=some (.slice e)) (hi:P.info? e=some i) (hz:i.zero=some (.int .u8 0)) (jp:i.size=1) (hby:i.bytes=1)
  (v:Value) (n:Nat) (xs:List Value) (hs:a.eval s=v) (xu:w.ownsRow B e 1 v n xs) (vx:Value) (l:List Int) (hx:a.eval x=vx) (hr:Rd w vx l) (hn:NilOk vx)
  (K:n+l.length<=1073741824) (hB:B<=w.heap.size)
  (h:∀v' w',w'.ownsRow B e 1 v' (n+l.length) (xs++l.map (Value.int .u8))->w.grownBy w' v.ownBlock->wpList P cB h2 rest (a.put o.dst v') w'):wpList P cB h2 (o::rest) a w:=by
 obtain⟨ao,cap,hv,hl,hc⟩:=hr;cases ao with
 | none =>
  obtain⟨h0,Z⟩:=hn _ _ hv;have oJ:l = []:=List.length_eq_zero_iff.1 h0;subst oJ;refine wpList_append_own_none hgd s x t D B e i 1 ht hi v n xs hs xu (by rw[hx,hv,Z];rfl) (h v w (by simpa using xu) (yS _ _))
 | some ad =>
  refine wpList_append_own w hgd s x t D B e i (.int .u8 0) 1 1 ht hi hz jp hby rfl (by decide) v n xs hs xu ad l.length cap (l.map (Value.int .u8)) (by rw[hx,hv]) (by simp) (fun j u hj=>?_) (fun u hu=>?_)
   (by unfold maxLen;omega) (by omega) hB (fun v' w' Z Q _=>h v' w' Z Q)
  ·have pO:j<l.length:=by
    rcases Nat.lt_or_ge j l.length with h|h
    ·exact h
    ·rw[List.getElem?_eq_none (by simpa using h)] at hj;cases hj
   obtain⟨b,off,e1,xp⟩:=hc (by intro h;rw[h] at pO;simp at pO);obtain rfl:=Option.some.inj e1;rw[List.getElem?_map,yI pO] at hj;have e:((Y b off):Addr).add j=(Y b (off+j)):=by unfold Addr.add;split <;> simp_all
   rw[e,xp j pO];simpa[pO] using hj
  ·obtain⟨y,_,rfl⟩:=List.mem_map.1 hu;rfl
def payE (l:List Ev):List Int:=l.flatMap evL
theorem payE_more (l:List Ev)(k:Nat)(e:Ev)(h:l[k]? = some e):payE (l.take (k+1))=payE (l.take k)++evL e:=by
 unfold payE;rw[List.take_add_one,h];simp
theorem payE_len:∀(l:List Ev),(∀e∈l,e.fit)->(payE l).length<=208*l.length
 | [],_=>by simp[payE]
 | e::l,h=>by
  have Z:=payE_len l (fun x hx=>h x (List.mem_cons_of_mem _ hx));have Q:=(im e (h e (by simp))).2;unfold payE at Z |-;rw[List.flatMap_cons,yQ,List.length_cons];omega
end Go.Proofs.YtkofhemdefffpaaGreatDoor
namespace Go.Proofs.YtkofhemdefffpaaGreatDoor
open Go.RowKit Ieee
set_option linter.unusedVariables false
end Go.Proofs.YtkofhemdefffpaaGreatDoor
namespace Go.Proofs.YtkofhemdefffpaaGreatDoor
open Go.RowKit Ieee
set_option linter.unusedVariables false
def PEq (y z:Nat):Prop:=y=z\/(nanB y=true/\nanB z=true/\y<18446744073709551616/\z<18446744073709551616)
end Go.Proofs.YtkofhemdefffpaaGreatDoor
namespace Go.Proofs.YtkofhemdefffpaaGreatDoor
open Go.RowKit
structure CmEq (c d:Cm):Prop where
 k:c.k=d.k
 s:c.s=d.s
 t:c.t=d.t
 l:c.l=d.l
 q:c.q=d.q
 i:c.i=d.i
 p:PEq c.p d.p
 g:c.g=d.g
theorem enc2_any (e:Ev)(w:World)(he:e.fit)(E:e.kind=2):Calls Tryz.prog 42 #[evV e] w fun r w'=>∃v,r=yn v/\OwnT w.heap.size w' v (evL e)/\yp w w':=by
 have hsf:=sfl;obtain⟨i0,uo,ub,xX,uh⟩:=info_parts Tryz.infoByte;have qi:=U (enc_eq e (by omega));have HLL:=U (im e he);have pV:=U (fun W=>lL e W);have hnn:∀i,-9223372036854775808<=(dw e).getD i 0/\(dw e).getD i 0<=9223372036854775807:=nums_bd e he;have hn5:(dw e).length=5:=rfl;have n1:=he.n 1;have n2:=he.n 2;have n3:=he.n 3;have n4:=he.n 4;have n5:=he.n 5;have n6:=he.n 6;have F:=he.g;generalize dw e=ns at *;clear he;generalize evL e=EL at *;obtain⟨xn,⟨ck,cs,ct,cl,cq,ci,cp,cg⟩,id,xj,qty,xk,xi⟩:=e;simp only at E;subst E;unfold Ev.num at n1 n2 n3 n4 n5 n6;unfold cmL at qi;unfold evV at pV |-;simp only at n1 n2 n3 n4 n5 n6 F pV qi |-;have hf5:(fldK 2).length=5:=(fldK_len2 2).resolve_left (fldK_ne2 2 (by omega));have Z:=zo w (yw 2 ck cs ct cl cq ci cp cg id xj qty xk xi) 78;have s1:(w.alloc (me (yw 2 ck cs ct cl cq ci cp cg id xj qty xk xi).toArray 78)).heap.size=w.heap.size+1:=by simp
 have s2:((w.alloc (me (yw 2 ck cs ct cl cq ci cp cg id xj qty xk xi).toArray 78)).alloc (me #[.int .u8 2] 5)).heap.size=w.heap.size+2:=by simp
 have b2:Below (w.heap.size+1) (w.alloc (me (yw 2 ck cs ct cl cq ci cp cg id xj qty xk xi).toArray 78)) ((w.alloc (me (yw 2 ck cs ct cl cq ci cp cg id xj qty xk xi).toArray 78)).alloc (me #[.int .u8 2] 5)):=(Below.refl _ _).alloc (by omega) _;have b3:Below (w.heap.size+2) ((w.alloc (me (yw 2 ck cs ct cl cq ci cp cg id xj qty xk xi).toArray 78)).alloc (me #[.int .u8 2] 5)) (((w.alloc (me (yw 2 ck cs ct cl cq ci cp cg id xj qty xk xi).toArray 78)).alloc (me #[.int .u8 2] 5)).alloc (me (yy ck cs ct cl cq ci cp cg).toArray 37)):=(Below.refl _ _).alloc (by omega) _
 have pF:BRow ((w.alloc (me (yw 2 ck cs ct cl cq ci cp cg id xj qty xk xi).toArray 78)).alloc (me #[.int .u8 2] 5)) w.heap.size (.slice (some (Y (w.heap.size+1) 0)) 1 1) [2]:=by
  have h:BRow ((w.alloc (me (yw 2 ck cs ct cl cq ci cp cg id xj qty xk xi).toArray 78)).alloc (me #[.int .u8 2] 5)) w.heap.size (.slice (some ⟨(w.alloc (me (yw 2 ck cs ct cl cq ci cp cg id xj qty xk xi).toArray 78)).heap.size,0,none⟩) 1 1) [2]:=⟨rfl,.inr ⟨(w.alloc (me (yw 2 ck cs ct cl cq ci cp cg id xj qty xk xi).toArray 78)).heap.size,1,_,rfl,by omega,heap_alloc_new (w.alloc (me (yw 2 ck cs ct cl cq ci cp cg id xj qty xk xi).toArray 78)) _,Nat.le_refl _,by decide,rfl,rfl⟩⟩;rwa[s1] at h
 have cQ:Bx (((w.alloc (me (yw 2 ck cs ct cl cq ci cp cg id xj qty xk xi).toArray 78)).alloc (me #[.int .u8 2] 5)).alloc (me (yy ck cs ct cl cq ci cp cg).toArray 37)) (w.heap.size+2) (yy ck cs ct cl cq ci cp cg):=by
  have h:=zo ((w.alloc (me (yw 2 ck cs ct cl cq ci cp cg id xj qty xk xi).toArray 78)).alloc (me #[.int .u8 2] 5)) (yy ck cs ct cl cq ci cp cg) 37;rw[s2] at h;exact h
 have xV:yp w (((w.alloc (me (yw 2 ck cs ct cl cq ci cp cg id xj qty xk xi).toArray 78)).alloc (me #[.int .u8 2] 5)).alloc (me (yy ck cs ct cl cq ci cp cg).toArray 37)):=(((Below.refl _ w).alloc yb _).trans (b2.mono (by omega))).trans (b3.mono (by omega))
 have HS:Hid (ES w (yw 2 ck cs ct cl cq ci cp cg id xj qty xk xi) (yy ck cs ct cl cq ci cp cg) (.slice (some (Y (w.heap.size+1) 0)) 1 1) [2] (((w.alloc (me (yw 2 ck cs ct cl cq ci cp cg id xj qty xk xi).toArray 78)).alloc (me #[.int .u8 2] 5)).alloc (me (yy ck cs ct cl cq ci cp cg).toArray 37))):=
  ⟨zQ pF (by show Below _ _ _;rw[s2];exact b3),fun q hq=>by simp[Value.ownBlock] at hq;omega,zl (zl Z b2 (by omega)) b3 (by omega),cQ,xV,by simp⟩
 have x0:=J (zl (zl Z b2 (by omega)) b3 (by omega)) 0 rfl;clear Z s1 s2 b2 b3 pF cQ xV
 skip
 go_enter Tryz.func42,Tryz.ntmps42;refine mg fun hb xw=>?_;go_wp2_with fail;refine O xw _ _ ?_;clear xw;refine mg fun hb xw=>?_;go_wp2_with fail;refine O xw _ _ ?_;clear xw;refine mg fun hb xw=>?_;go_wp2_with fail;refine O xw _ _ ?_;clear xw;generalize (((w.alloc (me (yw 2 ck cs ct cl cq ci cp cg id xj qty xk xi).toArray 78)).alloc (me #[.int .u8 2] 5)).alloc (me (yy ck cs ct cl cq ci cp cg).toArray 37))=W0 at HS x0 |-;have y1:=J (O HS).c 0 rfl;go_wp2_with fail;refine(eF ck _ n1.1 n1.2).mono ?_;rintro r W2 ⟨v2,rfl,ur,xy⟩;have xZ:=U ((O HS).below xy);have vK:=U ur;have uO:(putU (zz ck)).length<=23:=yO (zH _ (dy _ n1.1 n1.2)) (by omega);have jf:([2]).length<=1000:=by simp only[List.length_cons,List.length_nil];omega
 clear xy ur y1 x0 HS;go_wp2_with (at_builtin;go_must (refine zD _ rfl _ _ 22 rfl w.heap.size i0 Tryz.underlying22 uo ub xX uh _ _ rfl (O xZ).r _ _ _ rfl (O vK) (by omega) (O xZ).b.size ?_);intro ov W3 vM ua qr;have HS:=U ((O xZ).app vM ua qr);clear vM ua qr;have x0:=J (O HS).e 0 rfl;have y2:=J (O HS).c 1 rfl)
 clear xZ vK;refine(eF cs _ n2.1 n2.2).mono ?_;rintro r W2 ⟨v2,rfl,ur,xy⟩;have xZ:=U ((O HS).below xy);have vK:=U ur;have uO:(putU (zz cs)).length<=23:=yO (zH _ (dy _ n2.1 n2.2)) (by omega);have jf:([2]++putU (zz ck)).length<=1000:=by simp only[yQ,List.length_cons,List.length_nil];omega
 clear xy ur y2 x0 HS;go_wp2_with (at_builtin;go_must (refine zD _ rfl _ _ 22 rfl w.heap.size i0 Tryz.underlying22 uo ub xX uh _ _ rfl (O xZ).r _ _ _ rfl (O vK) (by omega) (O xZ).b.size ?_);intro ov W3 vM ua qr;have HS:=U ((O xZ).app vM ua qr);clear vM ua qr;have x0:=J (O HS).e 0 rfl;have y3:=J (O HS).c 2 rfl)
 clear xZ vK;refine(eF ct _ n3.1 n3.2).mono ?_;rintro r W2 ⟨v2,rfl,ur,xy⟩;have xZ:=U ((O HS).below xy);have vK:=U ur;have uO:(putU (zz ct)).length<=23:=yO (zH _ (dy _ n3.1 n3.2)) (by omega);have jf:([2]++putU (zz ck)++putU (zz cs)).length<=1000:=by simp only[yQ,List.length_cons,List.length_nil];omega
 clear xy ur y3 x0 HS;go_wp2_with (at_builtin;go_must (refine zD _ rfl _ _ 22 rfl w.heap.size i0 Tryz.underlying22 uo ub xX uh _ _ rfl (O xZ).r _ _ _ rfl (O vK) (by omega) (O xZ).b.size ?_);intro ov W3 vM ua qr;have HS:=U ((O xZ).app vM ua qr);clear vM ua qr;have x0:=J (O HS).e 0 rfl;have y4:=J (O HS).c 3 rfl)
 clear xZ vK;refine(eF cl _ n4.1 n4.2).mono ?_;rintro r W2 ⟨v2,rfl,ur,xy⟩;have xZ:=U ((O HS).below xy);have vK:=U ur;have uO:(putU (zz cl)).length<=23:=yO (zH _ (dy _ n4.1 n4.2)) (by omega);have jf:([2]++putU (zz ck)++putU (zz cs)++putU (zz ct)).length<=1000:=by simp only[yQ,List.length_cons,List.length_nil];omega
 clear xy ur y4 x0 HS;go_wp2_with (at_builtin;go_must (refine zD _ rfl _ _ 22 rfl w.heap.size i0 Tryz.underlying22 uo ub xX uh _ _ rfl (O xZ).r _ _ _ rfl (O vK) (by omega) (O xZ).b.size ?_);intro ov W3 vM ua qr;have HS:=U ((O xZ).app vM ua qr);clear vM ua qr;have x0:=J (O HS).e 0 rfl;have y5:=J (O HS).c 4 rfl)
 clear xZ vK;refine(eF cq _ n5.1 n5.2).mono ?_;rintro r W2 ⟨v2,rfl,ur,xy⟩;have xZ:=U ((O HS).below xy);have vK:=U ur;have uO:(putU (zz cq)).length<=23:=yO (zH _ (dy _ n5.1 n5.2)) (by omega);have jf:([2]++putU (zz ck)++putU (zz cs)++putU (zz ct)++putU (zz cl)).length<=1000:=by simp only[yQ,List.length_cons,List.length_nil];omega
 clear xy ur y5 x0 HS;go_wp2_with (at_builtin;go_must (refine zD _ rfl _ _ 22 rfl w.heap.size i0 Tryz.underlying22 uo ub xX uh _ _ rfl (O xZ).r _ _ _ rfl (O vK) (by omega) (O xZ).b.size ?_);intro ov W3 vM ua qr;have HS:=U ((O xZ).app vM ua qr);clear vM ua qr;have x0:=J (O HS).e 0 rfl;have y6:=J (O HS).c 5 rfl)
 clear xZ vK;refine(eF ci _ n6.1 n6.2).mono ?_;rintro r W2 ⟨v2,rfl,ur,xy⟩;have xZ:=U ((O HS).below xy);have vK:=U ur;have uO:(putU (zz ci)).length<=23:=yO (zH _ (dy _ n6.1 n6.2)) (by omega);have jf:([2]++putU (zz ck)++putU (zz cs)++putU (zz ct)++putU (zz cl)++putU (zz cq)).length<=1000:=by simp only[yQ,List.length_cons,List.length_nil];omega
 clear xy ur y6 x0 HS;go_wp2_with (at_builtin;go_must (refine zD _ rfl _ _ 22 rfl w.heap.size i0 Tryz.underlying22 uo ub xX uh _ _ rfl (O xZ).r _ _ _ rfl (O vK) (by omega) (O xZ).b.size ?_);intro ov W3 vM ua qr;have HS:=U ((O xZ).app vM ua qr);clear vM ua qr;have x0:=J (O HS).e 0 rfl;have y7:=J (O HS).c 6 rfl)
 clear xZ vK;refine(l01Float_any cp _).mono ?_;rintro r W2 ⟨v2,rfl,ur,xy⟩;have xZ:=U ((O HS).below xy);have vK:=U ur;have uO:(fl8 (fbit cp)).length<=23:=by rw[gm];omega
 have jf:([2]++putU (zz ck)++putU (zz cs)++putU (zz ct)++putU (zz cl)++putU (zz cq)++putU (zz ci)).length<=1000:=by simp only[yQ,List.length_cons,List.length_nil];omega
 clear xy ur y7 x0 HS;go_wp2_with (at_builtin;go_must (refine zD _ rfl _ _ 22 rfl w.heap.size i0 Tryz.underlying22 uo ub xX uh _ _ rfl (O xZ).r _ _ _ rfl (O vK) (by omega) (O xZ).b.size ?_);intro ov W3 vM ua qr;have HS:=U ((O xZ).app vM ua qr);clear vM ua qr;have x0:=J (O HS).e 0 rfl;have y8:=J (O HS).c 7 rfl)
 clear xZ vK;refine(l01Text_any cg _ F).mono ?_;rintro r W2 ⟨v2,rfl,ur,xy⟩;have xZ:=U ((O HS).below xy);have vK:=U ur;have uO:=textL_le cg;have jf:([2]++putU (zz ck)++putU (zz cs)++putU (zz ct)++putU (zz cl)++putU (zz cq)++putU (zz ci)++fl8 (fbit cp)).length<=1000:=by simp only[yQ,List.length_cons,List.length_nil,gm];omega
 clear xy ur y8 x0 HS;go_wp2_with (at_builtin;go_must (refine zD _ rfl _ _ 22 rfl w.heap.size i0 Tryz.underlying22 uo ub xX uh _ _ rfl (O xZ).r _ _ _ rfl (O vK) (by omega) (O xZ).b.size ?_);intro ov W3 vM ua qr;have HS:=U ((O xZ).app vM ua qr);clear vM ua qr;have x0:=J (O HS).e 0 rfl)
 clear xZ vK
 have HLE:Hid (([2]++putU (zz ck)++putU (zz cs)++putU (zz ct)++putU (zz cl)++putU (zz cq)++putU (zz ci)++fl8 (fbit cp)++dZ cg)++lpB (fldK 2) ns 5=EL):=by
  show([2]++putU (zz ck)++putU (zz cs)++putU (zz ct)++putU (zz cl)++putU (zz cq)++putU (zz ci)++fl8 (fbit cp)++dZ cg)++lpB (fldK 2) ns 5=EL;rw[<- O qi];simp[wrF,Ev.num]
 have hLL:([2]++putU (zz ck)++putU (zz cs)++putU (zz ct)++putU (zz cl)++putU (zz cq)++putU (zz ci)++fl8 (fbit cp)++dZ cg).length<=900:=by simp only[yQ,List.length_cons,List.length_nil,gm];omega
 generalize [2]++putU (zz ck)++putU (zz cs)++putU (zz ct)++putU (zz cl)++putU (zz cq)++putU (zz ci)++fl8 (fbit cp)++dZ cg=LC at *;clear qi;refine(fields_any 2 _).mono ?_;rintro r W4 ⟨hg,rfl,hF0,hF,xF⟩;rw[hf5];have vm:=(O HS).below xF;have aR:=U (fun q hq=>yK ((O HS).r.lt q hq).2 hF0);have kg:=bx_lt2 hF (by rw[List.length_map,hf5];decide);obtain ⟨x0,x1,x2,x3,x4,x5,x6,x7,x8,x9,cY,x11,x12,x13⟩:=q0_14 vm.e rfl;have HS4:=U vm;have HF4:=U hF;clear HS xF vm hF;go_wp2_with fail;refine(O pV _).mono ?_;rintro r W5 ⟨G,rfl,hG0,hG,uj⟩;have hGl:=bx_lt2 hG (by rw[List.length_map,hn5];decide);have bE:=U (es2_mk ((O HS4).below uj) (zl (O HF4) uj kg) hG (fun q hq=>⟨Nat.ne_of_lt (O aR q hq),Nat.ne_of_lt (yK (Nat.lt_trans (O aR q hq) kg) hG0)⟩) (yK kg uj.size) hGl);clear uj hG HS4 HF4 aR pV x0 x1 x2 x3 x4 x5 x6 x7 x8 x9 cY x11 x12 x13;go_wp2_with fail;go_loopw [3,7] (fun ov iv wr=>∃i:Nat,i<=5/\iv=H i/\Hid (ES2 w (yw 2 ck cs ct cl cq ci cp cg id xj qty xk xi) (yy ck cs ct cl cq ci cp cg) hg G (fldK 2) ns ov (LC++lpB (fldK 2) ns i) wr)) (fun _ iv _=>5-(intOf iv).toNat)
 case atStart=>exact⟨0,by omega,rfl,by rw[show lpB (fldK 2) ns 0 = [] from rfl,List.append_nil];exact O bE⟩
 case round =>
  obtain⟨i,hi,rfl,ue⟩:=hrel
  by_cases xK:i<5
  ·have jI:=O ue;have cS:wr.cell? (Y hg i)=some (.bool ((fldK 2).getD i false)):=J jI.f i (by rw[List.getElem?_map,yI (by omega)];simp[List.getD,show i<(fldK 2).length by omega]);have pD:wr.cell? (Y G i)=some (H (ns.getD i 0)):=J jI.g i (by rw[List.getElem?_map,yI (by omega)];simp[List.getD,show i<ns.length by omega]);have ux:(i:Int)<5:=by omega
   have qL:=U (fun h=>lpB_yes (fs:=fldK 2) (ns:=ns) (i:=i) h);have HNo:=U (fun h=>lpB_no (fs:=fldK 2) (ns:=ns) (i:=i) h);have hbl:=lpB_len (fldK 2) ns hnn i;have ca:=hnn i;generalize lpB (fldK 2) ns i=LB at *;generalize ns.getD i 0=n at *;have HI:=U jI;clear ue jI;cases hfv:(fldK 2).getD i false with
   | true =>
    rw[hfv] at cS;have HY:=U (O qL hfv);clear hfv qL HNo;go_wp2_with fail;refine(eF n wr ca.1 ca.2).mono ?_;rintro r W6 ⟨v6,rfl,kO,vU⟩;have HI6:=U ((O HI).below vU);have vK:=U kO;have uO:=zH (zz n) (dy n ca.1 ca.2);have jf:(LC++LB).length<=1000:=by rw[yQ];omega
    clear vU kO HI;go_wp2_with (at_builtin;go_must (refine zD _ rfl _ _ 22 rfl w.heap.size i0 Tryz.underlying22 uo ub xX uh _ _ rfl (O HI6).s.r _ _ _ rfl (O vK) (by omega) (O HI6).s.b.size ?_);intro ov W7 hr7 hg7 ha7;have HI7:=U ((O HI6).app hr7 hg7 ha7);clear hr7 hg7 ha7)
    go_roundw
    case rel=>exact⟨i+1,by omega,by go_num,by rw[O HY,<- List.append_assoc];exact O HI7⟩
    case measure=>simp[intOf];omega
   | false =>
    rw[hfv] at cS;have HY:=U (O HNo hfv);clear hfv qL HNo;go_wp2_with fail;go_roundw
    case rel=>exact⟨i+1,by omega,by go_num,by rw[O HY];exact O HI⟩
    case measure=>simp[intOf];omega
  ·obtain rfl:i=5:=by omega
   have h:=O ue;rw[O HLE] at h;have HR:=U (bRow_own h.s.r (O HLL).1 (by have:=(O HLL).2;omega));have HB:=U h.s.b;clear h ue;go_wp2_with fail;go_ret;exact⟨_,rfl,O HR,O HB⟩

theorem encN_any (e:Ev)(w:World)(he:e.fit)(E:3<=e.kind/\e.kind<=9):Calls Tryz.prog 42 #[evV e] w fun r w'=>∃v,r=yn v/\OwnT w.heap.size w' v (evL e)/\yp w w':=by
 have hsf:=sfl;obtain⟨i0,uo,ub,xX,uh⟩:=info_parts Tryz.infoByte;have qi:=U (enc_eq e (by omega));have HLL:=U (im e he);have pV:=U (fun W=>lL e W);have hnn:∀i,-9223372036854775808<=(dw e).getD i 0/\(dw e).getD i 0<=9223372036854775807:=nums_bd e he;have hn5:(dw e).length=5:=rfl;have n1:=he.n 1;have n2:=he.n 2;have n3:=he.n 3;have n4:=he.n 4;have n5:=he.n 5;have n6:=he.n 6;have F:=he.g;generalize dw e=ns at *;clear he;generalize evL e=EL at *;obtain⟨xn,⟨ck,cs,ct,cl,cq,ci,cp,cg⟩,id,xj,qty,xk,xi⟩:=e;simp only at E
 skip
 unfold Ev.num at n1 n2 n3 n4 n5 n6;unfold cmL at qi;unfold evV at pV |-;simp only at n1 n2 n3 n4 n5 n6 F pV qi |-;have hf5:(fldK xn).length=5:=(fldK_len2 xn).resolve_left (fldK_ne2 xn (by omega));have Z:=zo w (yw xn ck cs ct cl cq ci cp cg id xj qty xk xi) 78;have s1:(w.alloc (me (yw xn ck cs ct cl cq ci cp cg id xj qty xk xi).toArray 78)).heap.size=w.heap.size+1:=by simp
 have s2:((w.alloc (me (yw xn ck cs ct cl cq ci cp cg id xj qty xk xi).toArray 78)).alloc (me #[.int .u8 xn] 5)).heap.size=w.heap.size+2:=by simp
 have b2:Below (w.heap.size+1) (w.alloc (me (yw xn ck cs ct cl cq ci cp cg id xj qty xk xi).toArray 78)) ((w.alloc (me (yw xn ck cs ct cl cq ci cp cg id xj qty xk xi).toArray 78)).alloc (me #[.int .u8 xn] 5)):=(Below.refl _ _).alloc (by omega) _;have b3:Below (w.heap.size+2) ((w.alloc (me (yw xn ck cs ct cl cq ci cp cg id xj qty xk xi).toArray 78)).alloc (me #[.int .u8 xn] 5)) (((w.alloc (me (yw xn ck cs ct cl cq ci cp cg id xj qty xk xi).toArray 78)).alloc (me #[.int .u8 xn] 5)).alloc (me (yy ck cs ct cl cq ci cp cg).toArray 37)):=(Below.refl _ _).alloc (by omega) _
 have pF:BRow ((w.alloc (me (yw xn ck cs ct cl cq ci cp cg id xj qty xk xi).toArray 78)).alloc (me #[.int .u8 xn] 5)) w.heap.size (.slice (some (Y (w.heap.size+1) 0)) 1 1) [xn]:=by
  have h:BRow ((w.alloc (me (yw xn ck cs ct cl cq ci cp cg id xj qty xk xi).toArray 78)).alloc (me #[.int .u8 xn] 5)) w.heap.size (.slice (some ⟨(w.alloc (me (yw xn ck cs ct cl cq ci cp cg id xj qty xk xi).toArray 78)).heap.size,0,none⟩) 1 1) [xn]:=⟨rfl,.inr ⟨(w.alloc (me (yw xn ck cs ct cl cq ci cp cg id xj qty xk xi).toArray 78)).heap.size,1,_,rfl,by omega,heap_alloc_new (w.alloc (me (yw xn ck cs ct cl cq ci cp cg id xj qty xk xi).toArray 78)) _,Nat.le_refl _,by decide,rfl,rfl⟩⟩;rwa[s1] at h
 have cQ:Bx (((w.alloc (me (yw xn ck cs ct cl cq ci cp cg id xj qty xk xi).toArray 78)).alloc (me #[.int .u8 xn] 5)).alloc (me (yy ck cs ct cl cq ci cp cg).toArray 37)) (w.heap.size+2) (yy ck cs ct cl cq ci cp cg):=by
  have h:=zo ((w.alloc (me (yw xn ck cs ct cl cq ci cp cg id xj qty xk xi).toArray 78)).alloc (me #[.int .u8 xn] 5)) (yy ck cs ct cl cq ci cp cg) 37;rw[s2] at h;exact h
 have xV:yp w (((w.alloc (me (yw xn ck cs ct cl cq ci cp cg id xj qty xk xi).toArray 78)).alloc (me #[.int .u8 xn] 5)).alloc (me (yy ck cs ct cl cq ci cp cg).toArray 37)):=(((Below.refl _ w).alloc yb _).trans (b2.mono (by omega))).trans (b3.mono (by omega))
 have HS:Hid (ES w (yw xn ck cs ct cl cq ci cp cg id xj qty xk xi) (yy ck cs ct cl cq ci cp cg) (.slice (some (Y (w.heap.size+1) 0)) 1 1) [xn] (((w.alloc (me (yw xn ck cs ct cl cq ci cp cg id xj qty xk xi).toArray 78)).alloc (me #[.int .u8 xn] 5)).alloc (me (yy ck cs ct cl cq ci cp cg).toArray 37))):=
  ⟨zQ pF (by show Below _ _ _;rw[s2];exact b3),fun q hq=>by simp[Value.ownBlock] at hq;omega,zl (zl Z b2 (by omega)) b3 (by omega),cQ,xV,by simp⟩
 have x0:=J (zl (zl Z b2 (by omega)) b3 (by omega)) 0 rfl;clear Z s1 s2 b2 b3 pF cQ xV;have k1:(xn==1)=false:=by simp;omega
 have k2:(xn==2)=false:=by simp;omega
 have k0:0<=xn:=by omega
 have k9:xn<=255:=by omega
 go_enter Tryz.func42,Tryz.ntmps42;refine mg fun hb xw=>?_;go_wp2_with fail;refine O xw _ _ ?_;clear xw;refine mg fun hb xw=>?_;go_wp2_with fail;refine O xw _ _ ?_;clear xw;refine mg fun hb xw=>?_;go_wp2_with fail;refine O xw _ _ ?_;clear xw;generalize (((w.alloc (me (yw xn ck cs ct cl cq ci cp cg id xj qty xk xi).toArray 78)).alloc (me #[.int .u8 xn] 5)).alloc (me (yy ck cs ct cl cq ci cp cg).toArray 37))=W0 at HS x0 |-
 have HLE:Hid (([xn])++lpB (fldK xn) ns 5=EL):=by
  show([xn])++lpB (fldK xn) ns 5=EL;rw[<- O qi];rw[if_neg (show ¬ xn=1 by omega),if_neg (show ¬ xn=2 by omega)];simp
 have hLL:([xn]).length<=900:=by simp
 generalize [xn]=LC at *;clear qi;go_wp2_with fail;refine(fields_any xn _).mono ?_;rintro r W4 ⟨hg,rfl,hF0,hF,xF⟩;rw[hf5];have vm:=(O HS).below xF;have aR:=U (fun q hq=>yK ((O HS).r.lt q hq).2 hF0);have kg:=bx_lt2 hF (by rw[List.length_map,hf5];decide);obtain ⟨x0,x1,x2,x3,x4,x5,x6,x7,x8,x9,cY,x11,x12,x13⟩:=q0_14 vm.e rfl;have HS4:=U vm;have HF4:=U hF;clear HS xF vm hF;go_wp2_with fail;refine(O pV _).mono ?_;rintro r W5 ⟨G,rfl,hG0,hG,uj⟩;have hGl:=bx_lt2 hG (by rw[List.length_map,hn5];decide);have bE:=U (es2_mk ((O HS4).below uj) (zl (O HF4) uj kg) hG (fun q hq=>⟨Nat.ne_of_lt (O aR q hq),Nat.ne_of_lt (yK (Nat.lt_trans (O aR q hq) kg) hG0)⟩) (yK kg uj.size) hGl);clear uj hG HS4 HF4 aR pV x0 x1 x2 x3 x4 x5 x6 x7 x8 x9 cY x11 x12 x13;go_wp2_with fail;go_loopw [3,7] (fun ov iv wr=>∃i:Nat,i<=5/\iv=H i/\Hid (ES2 w (yw xn ck cs ct cl cq ci cp cg id xj qty xk xi) (yy ck cs ct cl cq ci cp cg) hg G (fldK xn) ns ov (LC++lpB (fldK xn) ns i) wr)) (fun _ iv _=>5-(intOf iv).toNat)
 case atStart=>exact⟨0,by omega,rfl,by rw[show lpB (fldK xn) ns 0 = [] from rfl,List.append_nil];exact O bE⟩
 case round =>
  obtain⟨i,hi,rfl,ue⟩:=hrel
  by_cases xK:i<5
  ·have jI:=O ue;have cS:wr.cell? (Y hg i)=some (.bool ((fldK xn).getD i false)):=J jI.f i (by rw[List.getElem?_map,yI (by omega)];simp[List.getD,show i<(fldK xn).length by omega]);have pD:wr.cell? (Y G i)=some (H (ns.getD i 0)):=J jI.g i (by rw[List.getElem?_map,yI (by omega)];simp[List.getD,show i<ns.length by omega]);have ux:(i:Int)<5:=by omega
   have qL:=U (fun h=>lpB_yes (fs:=fldK xn) (ns:=ns) (i:=i) h);have HNo:=U (fun h=>lpB_no (fs:=fldK xn) (ns:=ns) (i:=i) h);have hbl:=lpB_len (fldK xn) ns hnn i;have ca:=hnn i;generalize lpB (fldK xn) ns i=LB at *;generalize ns.getD i 0=n at *;have HI:=U jI;clear ue jI;cases hfv:(fldK xn).getD i false with
   | true =>
    rw[hfv] at cS;have HY:=U (O qL hfv);clear hfv qL HNo;go_wp2_with fail;refine(eF n wr ca.1 ca.2).mono ?_;rintro r W6 ⟨v6,rfl,kO,vU⟩;have HI6:=U ((O HI).below vU);have vK:=U kO;have uO:=zH (zz n) (dy n ca.1 ca.2);have jf:(LC++LB).length<=1000:=by rw[yQ];omega
    clear vU kO HI;go_wp2_with (at_builtin;go_must (refine zD _ rfl _ _ 22 rfl w.heap.size i0 Tryz.underlying22 uo ub xX uh _ _ rfl (O HI6).s.r _ _ _ rfl (O vK) (by omega) (O HI6).s.b.size ?_);intro ov W7 hr7 hg7 ha7;have HI7:=U ((O HI6).app hr7 hg7 ha7);clear hr7 hg7 ha7)
    go_roundw
    case rel=>exact⟨i+1,by omega,by go_num,by rw[O HY,<- List.append_assoc];exact O HI7⟩
    case measure=>simp[intOf];omega
   | false =>
    rw[hfv] at cS;have HY:=U (O HNo hfv);clear hfv qL HNo;go_wp2_with fail;go_roundw
    case rel=>exact⟨i+1,by omega,by go_num,by rw[O HY];exact O HI⟩
    case measure=>simp[intOf];omega
  ·obtain rfl:i=5:=by omega
   have h:=O ue;rw[O HLE] at h;have HR:=U (bRow_own h.s.r (O HLL).1 (by have:=(O HLL).2;omega));have HB:=U h.s.b;clear h ue;go_wp2_with fail;go_ret;exact⟨_,rfl,O HR,O HB⟩


theorem enc1_any (e:Ev)(w:World)(he:e.fit)(E:e.kind=1):Calls Tryz.prog 42 #[evV e] w fun r w'=>∃v,r=yn v/\OwnT w.heap.size w' v (evL e)/\yp w w':=by
 have hsf:=sfl;obtain⟨i0,uo,ub,xX,uh⟩:=info_parts Tryz.infoByte;have qi:=U (enc_eq e (by omega));have HLL:=U (im e he);have pV:=U (fun W=>lL e W);have hnn:∀i,-9223372036854775808<=(dw e).getD i 0/\(dw e).getD i 0<=9223372036854775807:=nums_bd e he;have hn5:(dw e).length=5:=rfl;have n1:=he.n 1;have n2:=he.n 2;have n3:=he.n 3;have n4:=he.n 4;have n5:=he.n 5;have n6:=he.n 6;have F:=he.g;generalize dw e=ns at *;clear he;generalize evL e=EL at *;obtain⟨xn,⟨ck,cs,ct,cl,cq,ci,cp,cg⟩,id,xj,qty,xk,xi⟩:=e;simp only at E;subst E;unfold Ev.num at n1 n2 n3 n4 n5 n6;unfold cmL at qi;unfold evV at pV |-;simp only at n1 n2 n3 n4 n5 n6 F pV qi |-;have hf5:(fldK 1).length=5:=(fldK_len2 1).resolve_left (fldK_ne2 1 (by omega));have Z:=zo w (yw 1 ck cs ct cl cq ci cp cg id xj qty xk xi) 78;have s1:(w.alloc (me (yw 1 ck cs ct cl cq ci cp cg id xj qty xk xi).toArray 78)).heap.size=w.heap.size+1:=by simp
 have s2:((w.alloc (me (yw 1 ck cs ct cl cq ci cp cg id xj qty xk xi).toArray 78)).alloc (me #[.int .u8 1] 5)).heap.size=w.heap.size+2:=by simp
 have b2:Below (w.heap.size+1) (w.alloc (me (yw 1 ck cs ct cl cq ci cp cg id xj qty xk xi).toArray 78)) ((w.alloc (me (yw 1 ck cs ct cl cq ci cp cg id xj qty xk xi).toArray 78)).alloc (me #[.int .u8 1] 5)):=(Below.refl _ _).alloc (by omega) _;have b3:Below (w.heap.size+2) ((w.alloc (me (yw 1 ck cs ct cl cq ci cp cg id xj qty xk xi).toArray 78)).alloc (me #[.int .u8 1] 5)) (((w.alloc (me (yw 1 ck cs ct cl cq ci cp cg id xj qty xk xi).toArray 78)).alloc (me #[.int .u8 1] 5)).alloc (me (yy ck cs ct cl cq ci cp cg).toArray 37)):=(Below.refl _ _).alloc (by omega) _
 have pF:BRow ((w.alloc (me (yw 1 ck cs ct cl cq ci cp cg id xj qty xk xi).toArray 78)).alloc (me #[.int .u8 1] 5)) w.heap.size (.slice (some (Y (w.heap.size+1) 0)) 1 1) [1]:=by
  have h:BRow ((w.alloc (me (yw 1 ck cs ct cl cq ci cp cg id xj qty xk xi).toArray 78)).alloc (me #[.int .u8 1] 5)) w.heap.size (.slice (some ⟨(w.alloc (me (yw 1 ck cs ct cl cq ci cp cg id xj qty xk xi).toArray 78)).heap.size,0,none⟩) 1 1) [1]:=⟨rfl,.inr ⟨(w.alloc (me (yw 1 ck cs ct cl cq ci cp cg id xj qty xk xi).toArray 78)).heap.size,1,_,rfl,by omega,heap_alloc_new (w.alloc (me (yw 1 ck cs ct cl cq ci cp cg id xj qty xk xi).toArray 78)) _,Nat.le_refl _,by decide,rfl,rfl⟩⟩;rwa[s1] at h
 have cQ:Bx (((w.alloc (me (yw 1 ck cs ct cl cq ci cp cg id xj qty xk xi).toArray 78)).alloc (me #[.int .u8 1] 5)).alloc (me (yy ck cs ct cl cq ci cp cg).toArray 37)) (w.heap.size+2) (yy ck cs ct cl cq ci cp cg):=by
  have h:=zo ((w.alloc (me (yw 1 ck cs ct cl cq ci cp cg id xj qty xk xi).toArray 78)).alloc (me #[.int .u8 1] 5)) (yy ck cs ct cl cq ci cp cg) 37;rw[s2] at h;exact h
 have xV:yp w (((w.alloc (me (yw 1 ck cs ct cl cq ci cp cg id xj qty xk xi).toArray 78)).alloc (me #[.int .u8 1] 5)).alloc (me (yy ck cs ct cl cq ci cp cg).toArray 37)):=(((Below.refl _ w).alloc yb _).trans (b2.mono (by omega))).trans (b3.mono (by omega))
 have HS:Hid (ES w (yw 1 ck cs ct cl cq ci cp cg id xj qty xk xi) (yy ck cs ct cl cq ci cp cg) (.slice (some (Y (w.heap.size+1) 0)) 1 1) [1] (((w.alloc (me (yw 1 ck cs ct cl cq ci cp cg id xj qty xk xi).toArray 78)).alloc (me #[.int .u8 1] 5)).alloc (me (yy ck cs ct cl cq ci cp cg).toArray 37))):=
  ⟨zQ pF (by show Below _ _ _;rw[s2];exact b3),fun q hq=>by simp[Value.ownBlock] at hq;omega,zl (zl Z b2 (by omega)) b3 (by omega),cQ,xV,by simp⟩
 have x0:=J (zl (zl Z b2 (by omega)) b3 (by omega)) 0 rfl;clear Z s1 s2 b2 b3 pF cQ xV
 skip
 go_enter Tryz.func42,Tryz.ntmps42;refine mg fun hb xw=>?_;go_wp2_with fail;refine O xw _ _ ?_;clear xw;refine mg fun hb xw=>?_;go_wp2_with fail;refine O xw _ _ ?_;clear xw;refine mg fun hb xw=>?_;go_wp2_with fail;refine O xw _ _ ?_;clear xw;generalize (((w.alloc (me (yw 1 ck cs ct cl cq ci cp cg id xj qty xk xi).toArray 78)).alloc (me #[.int .u8 1] 5)).alloc (me (yy ck cs ct cl cq ci cp cg).toArray 37))=W0 at HS x0 |-;have y2:=J (O HS).c 1 rfl;go_wp2_with fail;refine(eF cs _ n2.1 n2.2).mono ?_;rintro r W2 ⟨v2,rfl,ur,xy⟩;have xZ:=U ((O HS).below xy);have vK:=U ur;have uO:(putU (zz cs)).length<=23:=yO (zH _ (dy _ n2.1 n2.2)) (by omega);have jf:([1]).length<=1000:=by simp only[List.length_cons,List.length_nil];omega
 clear xy ur y2 x0 HS;go_wp2_with (at_builtin;go_must (refine zD _ rfl _ _ 22 rfl w.heap.size i0 Tryz.underlying22 uo ub xX uh _ _ rfl (O xZ).r _ _ _ rfl (O vK) (by omega) (O xZ).b.size ?_);intro ov W3 vM ua qr;have HS:=U ((O xZ).app vM ua qr);clear vM ua qr;have x0:=J (O HS).e 0 rfl;have y3:=J (O HS).c 2 rfl)
 clear xZ vK;refine(eF ct _ n3.1 n3.2).mono ?_;rintro r W2 ⟨v2,rfl,ur,xy⟩;have xZ:=U ((O HS).below xy);have vK:=U ur;have uO:(putU (zz ct)).length<=23:=yO (zH _ (dy _ n3.1 n3.2)) (by omega);have jf:([1]++putU (zz cs)).length<=1000:=by simp only[yQ,List.length_cons,List.length_nil];omega
 clear xy ur y3 x0 HS;go_wp2_with (at_builtin;go_must (refine zD _ rfl _ _ 22 rfl w.heap.size i0 Tryz.underlying22 uo ub xX uh _ _ rfl (O xZ).r _ _ _ rfl (O vK) (by omega) (O xZ).b.size ?_);intro ov W3 vM ua qr;have HS:=U ((O xZ).app vM ua qr);clear vM ua qr;have x0:=J (O HS).e 0 rfl;have y4:=J (O HS).c 3 rfl)
 clear xZ vK;refine(eF cl _ n4.1 n4.2).mono ?_;rintro r W2 ⟨v2,rfl,ur,xy⟩;have xZ:=U ((O HS).below xy);have vK:=U ur;have uO:(putU (zz cl)).length<=23:=yO (zH _ (dy _ n4.1 n4.2)) (by omega);have jf:([1]++putU (zz cs)++putU (zz ct)).length<=1000:=by simp only[yQ,List.length_cons,List.length_nil];omega
 clear xy ur y4 x0 HS;go_wp2_with (at_builtin;go_must (refine zD _ rfl _ _ 22 rfl w.heap.size i0 Tryz.underlying22 uo ub xX uh _ _ rfl (O xZ).r _ _ _ rfl (O vK) (by omega) (O xZ).b.size ?_);intro ov W3 vM ua qr;have HS:=U ((O xZ).app vM ua qr);clear vM ua qr;have x0:=J (O HS).e 0 rfl;have y5:=J (O HS).c 4 rfl)
 clear xZ vK;refine(eF cq _ n5.1 n5.2).mono ?_;rintro r W2 ⟨v2,rfl,ur,xy⟩;have xZ:=U ((O HS).below xy);have vK:=U ur;have uO:(putU (zz cq)).length<=23:=yO (zH _ (dy _ n5.1 n5.2)) (by omega);have jf:([1]++putU (zz cs)++putU (zz ct)++putU (zz cl)).length<=1000:=by simp only[yQ,List.length_cons,List.length_nil];omega
 clear xy ur y5 x0 HS;go_wp2_with (at_builtin;go_must (refine zD _ rfl _ _ 22 rfl w.heap.size i0 Tryz.underlying22 uo ub xX uh _ _ rfl (O xZ).r _ _ _ rfl (O vK) (by omega) (O xZ).b.size ?_);intro ov W3 vM ua qr;have HS:=U ((O xZ).app vM ua qr);clear vM ua qr;have x0:=J (O HS).e 0 rfl;have y7:=J (O HS).c 6 rfl)
 clear xZ vK;refine(l01Float_any cp _).mono ?_;rintro r W2 ⟨v2,rfl,ur,xy⟩;have xZ:=U ((O HS).below xy);have vK:=U ur;have uO:(fl8 (fbit cp)).length<=23:=by rw[gm];omega
 have jf:([1]++putU (zz cs)++putU (zz ct)++putU (zz cl)++putU (zz cq)).length<=1000:=by simp only[yQ,List.length_cons,List.length_nil];omega
 clear xy ur y7 x0 HS;go_wp2_with (at_builtin;go_must (refine zD _ rfl _ _ 22 rfl w.heap.size i0 Tryz.underlying22 uo ub xX uh _ _ rfl (O xZ).r _ _ _ rfl (O vK) (by omega) (O xZ).b.size ?_);intro ov W3 vM ua qr;have HS:=U ((O xZ).app vM ua qr);clear vM ua qr;have x0:=J (O HS).e 0 rfl;have y8:=J (O HS).c 7 rfl)
 clear xZ vK;refine(l01Text_any cg _ F).mono ?_;rintro r W2 ⟨v2,rfl,ur,xy⟩;have xZ:=U ((O HS).below xy);have vK:=U ur;have uO:=textL_le cg;have jf:([1]++putU (zz cs)++putU (zz ct)++putU (zz cl)++putU (zz cq)++fl8 (fbit cp)).length<=1000:=by simp only[yQ,List.length_cons,List.length_nil,gm];omega
 clear xy ur y8 x0 HS;go_wp2_with (at_builtin;go_must (refine zD _ rfl _ _ 22 rfl w.heap.size i0 Tryz.underlying22 uo ub xX uh _ _ rfl (O xZ).r _ _ _ rfl (O vK) (by omega) (O xZ).b.size ?_);intro ov W3 vM ua qr;have HS:=U ((O xZ).app vM ua qr);clear vM ua qr;have x0:=J (O HS).e 0 rfl)
 clear xZ vK
 have HLE:Hid (([1]++putU (zz cs)++putU (zz ct)++putU (zz cl)++putU (zz cq)++fl8 (fbit cp)++dZ cg)++lpB (fldK 1) ns 5=EL):=by
  show([1]++putU (zz cs)++putU (zz ct)++putU (zz cl)++putU (zz cq)++fl8 (fbit cp)++dZ cg)++lpB (fldK 1) ns 5=EL;rw[<- O qi];simp[wrF,Ev.num]
 have hLL:([1]++putU (zz cs)++putU (zz ct)++putU (zz cl)++putU (zz cq)++fl8 (fbit cp)++dZ cg).length<=900:=by simp only[yQ,List.length_cons,List.length_nil,gm];omega
 generalize [1]++putU (zz cs)++putU (zz ct)++putU (zz cl)++putU (zz cq)++fl8 (fbit cp)++dZ cg=LC at *;clear qi;refine(fields_any 1 _).mono ?_;rintro r W4 ⟨hg,rfl,hF0,hF,xF⟩;rw[hf5];have vm:=(O HS).below xF;have aR:=U (fun q hq=>yK ((O HS).r.lt q hq).2 hF0);have kg:=bx_lt2 hF (by rw[List.length_map,hf5];decide);obtain ⟨x0,x1,x2,x3,x4,x5,x6,x7,x8,x9,cY,x11,x12,x13⟩:=q0_14 vm.e rfl;have HS4:=U vm;have HF4:=U hF;clear HS xF vm hF;go_wp2_with fail;refine(O pV _).mono ?_;rintro r W5 ⟨G,rfl,hG0,hG,uj⟩;have hGl:=bx_lt2 hG (by rw[List.length_map,hn5];decide);have bE:=U (es2_mk ((O HS4).below uj) (zl (O HF4) uj kg) hG (fun q hq=>⟨Nat.ne_of_lt (O aR q hq),Nat.ne_of_lt (yK (Nat.lt_trans (O aR q hq) kg) hG0)⟩) (yK kg uj.size) hGl);clear uj hG HS4 HF4 aR pV x0 x1 x2 x3 x4 x5 x6 x7 x8 x9 cY x11 x12 x13;go_wp2_with fail;go_loopw [3,7] (fun ov iv wr=>∃i:Nat,i<=5/\iv=H i/\Hid (ES2 w (yw 1 ck cs ct cl cq ci cp cg id xj qty xk xi) (yy ck cs ct cl cq ci cp cg) hg G (fldK 1) ns ov (LC++lpB (fldK 1) ns i) wr)) (fun _ iv _=>5-(intOf iv).toNat)
 case atStart=>exact⟨0,by omega,rfl,by rw[show lpB (fldK 1) ns 0 = [] from rfl,List.append_nil];exact O bE⟩
 case round =>
  obtain⟨i,hi,rfl,ue⟩:=hrel
  by_cases xK:i<5
  ·have jI:=O ue;have cS:wr.cell? (Y hg i)=some (.bool ((fldK 1).getD i false)):=J jI.f i (by rw[List.getElem?_map,yI (by omega)];simp[List.getD,show i<(fldK 1).length by omega]);have pD:wr.cell? (Y G i)=some (H (ns.getD i 0)):=J jI.g i (by rw[List.getElem?_map,yI (by omega)];simp[List.getD,show i<ns.length by omega]);have ux:(i:Int)<5:=by omega
   have qL:=U (fun h=>lpB_yes (fs:=fldK 1) (ns:=ns) (i:=i) h);have HNo:=U (fun h=>lpB_no (fs:=fldK 1) (ns:=ns) (i:=i) h);have hbl:=lpB_len (fldK 1) ns hnn i;have ca:=hnn i;generalize lpB (fldK 1) ns i=LB at *;generalize ns.getD i 0=n at *;have HI:=U jI;clear ue jI;cases hfv:(fldK 1).getD i false with
   | true =>
    rw[hfv] at cS;have HY:=U (O qL hfv);clear hfv qL HNo;go_wp2_with fail;refine(eF n wr ca.1 ca.2).mono ?_;rintro r W6 ⟨v6,rfl,kO,vU⟩;have HI6:=U ((O HI).below vU);have vK:=U kO;have uO:=zH (zz n) (dy n ca.1 ca.2);have jf:(LC++LB).length<=1000:=by rw[yQ];omega
    clear vU kO HI;go_wp2_with (at_builtin;go_must (refine zD _ rfl _ _ 22 rfl w.heap.size i0 Tryz.underlying22 uo ub xX uh _ _ rfl (O HI6).s.r _ _ _ rfl (O vK) (by omega) (O HI6).s.b.size ?_);intro ov W7 hr7 hg7 ha7;have HI7:=U ((O HI6).app hr7 hg7 ha7);clear hr7 hg7 ha7)
    go_roundw
    case rel=>exact⟨i+1,by omega,by go_num,by rw[O HY,<- List.append_assoc];exact O HI7⟩
    case measure=>simp[intOf];omega
   | false =>
    rw[hfv] at cS;have HY:=U (O HNo hfv);clear hfv qL HNo;go_wp2_with fail;go_roundw
    case rel=>exact⟨i+1,by omega,by go_num,by rw[O HY];exact O HI⟩
    case measure=>simp[intOf];omega
  ·obtain rfl:i=5:=by omega
   have h:=O ue;rw[O HLE] at h;have HR:=U (bRow_own h.s.r (O HLL).1 (by have:=(O HLL).2;omega));have HB:=U h.s.b;clear h ue;go_wp2_with fail;go_ret;exact⟨_,rfl,O HR,O HB⟩
theorem frH_lenG {m:Int}{p:List Int}(hp:p.length<=8192):(frH m p).length<=8203:=by
 have Z:=zH (zz p.length) (dy _ (by omega) (by omega));rw[frH,List.cons_append,List.length_cons,yQ];omega
theorem bRow_nil {W:World}{B:Nat}{v:Value}{l:List Int}(h:BRow W B v l):NilOk v:=by
 intro n c e;rcases h.2 with⟨h0,_⟩|⟨g,cap,xt,h0,_⟩
 ·rw[h0] at e;simp at e;omega
 ·rw[h0] at e;simp at e
theorem l06FrameG_any (m:Int)(hm:0<=m/\m<=255)(vp:Value)(p:List Int)(uQ:Int)(B:Nat)(w:World)(hp:BRow w B vp p)(hl:p.length<=8192)(K:Bts p)(h0:0<=uQ)(Z:uQ<65521) :
  Calls Tryz.prog 20 #[.int .u8 m,vp,H uQ] w fun e w'=>∃v,e=yn (.tuple #[v,H (frS m p uQ)])/\BRow w' w.heap.size v (frL m p uQ)/\yp w w':=by
 obtain⟨i0,uo,ub,xX,uh⟩:=info_parts Tryz.infoByte;have HP:=U hp;obtain⟨ap,cp,rfl⟩:=lh hp;have ud:=mc w (me #[.int .u8 m] 5);have vO:Hid (BRow (w.alloc (me #[.int .u8 m] 5)) w.heap.size (.slice (some (yr w 0)) 1 1) [m]):=⟨rfl,.inr ⟨w.heap.size,1,_,rfl,Nat.le_refl _,heap_alloc_new w _,Nat.le_refl _,by decide,rfl,rfl⟩⟩;have ui:=U ud;have vj:=zH (zz p.length) (dy _ (by omega) (by omega));have HFH:Hid (frH m p = [m]++putU (zz p.length)++p):=rfl;have hfl:=frH_lenG (m:=m) hl;have HFB:=U (frH_bts hm K);have HSB:=U (gF (frH m p) uQ h0 Z);have HSO:Hid (sumOf (frH m p) uQ=frS m p uQ):=if_neg (by omega);have qJ:Hid (sumL (frH m p) uQ=frS m p uQ):=rfl;have HFL:Hid (frL m p uQ=frH m p ++ [frS m p uQ / 256,frS m p uQ % 256]):=rfl;clear hp K ud;go_enter Tryz.func20,Tryz.ntmps20;refine mg fun hb xw=>?_;go_wp2_with fail;refine O xw _ _ ?_;clear xw;refine mg fun hb xw=>?_;go_wp2_with fail;generalize (w.alloc (me #[.int .u8 m] 5))=W1 at vO ui |-;refine(eF p.length W1 (by omega) (by omega)).mono ?_;rintro e w2 ⟨v2,rfl,ur,xy⟩;obtain⟨g,cp2,rfl,jn,vd⟩:=gj ur;have uk:=U vd;have vv:=U (zQ (O vO) xy);have jD:Hid (w.heap.size<=w2.heap.size):=yO (O ui).size xy.size;have xz:=U (mf (O ui) xy);have HP2:=U (zQ (zQ (O HP) (O ui)) xy);clear ur xy vd;generalize putU (zz p.length)=P at HFH vj uk |-;go_wp2_with (at_builtin;go_must (refine wpList_append_own _ rfl _ _ 22 rfl w.heap.size 5 i0 _ 1 1 Tryz.underlying22 uo ub xX uh rfl (by decide) (.slice (some (yr w 0)) 1 1) _ _ rfl (O vv) (Y g 0) _ cp2 (P.map (Value.int .u8)) rfl (by simp) (O uk) (one_b _) (by unfold maxLen;simp;omega) (by simp;omega) (O jD) ?_);intro v3 w3 xu F _;have vD:=U xu;have vu:=U F;clear xu F)
 go_wp2_with fail;refine O xw _ _ ?_;clear xw;have jP:Hid (BRow w3 w.heap.size v3 ([m]++P)):=eL (O vD);have xL:=U ((O xz).grown (O vu) (O xz).size (fun q hq=>((O vv).lt q hq).1));have HP3:=U (World.ownsRow.kept (O HP2) (O vu) (by cases e:(Value.slice ap p.length cp).ownBlock with|none=>exact .inl rfl|some q=>exact .inr fun e2=>by have Z:=((O HP).lt q e).2;have Q:=((O vv).lt q e2.symm).1;omega))
 clear vD vu uk;have HRP:=U (il (O HP3) (by omega));have HNP:=U (bRow_nil (O HP3));have HSZ3:Hid (w.heap.size<=w3.heap.size):=(O xL).size;generalize hM:[m]++P=ym at jP HFH;have hMl:ym.length<=11:=by rw[<- hM];simp;omega
 clear hM;refine mg fun hb xw=>?_;go_wp2_with (at_builtin;go_must (refine lF _ rfl _ _ 22 rfl w.heap.size 5 i0 Tryz.underlying22 uo ub xX uh v3 _ _ rfl (O jP) _ p rfl (O HRP) (O HNP) (by omega) (O HSZ3) ?_);intro v4 w4 xu F;have vD:=U xu;have vu:=U F;clear xu F)
 go_wp2_with fail;refine O xw _ _ ?_;clear xw;have oS:Hid (BRow w4 w.heap.size v4 (frH m p)):=by rw[O HFH];exact eL (O vD)
 have xQ:=U ((O xL).grown (O vu) (O xL).size (fun q hq=>((O jP).lt q hq).1));clear vD vu;generalize frH m p=FH at oS hfl HFB HSB HSO qJ HFL HFH;refine mg fun hb xw=>?_;go_wp2_with fail;rw[O qJ] at HSB;obtain⟨jo,xG⟩:=O HSB;generalize hSS:frS m p uQ=S at HFL HSB HSO qJ jo xG;have HSS:=U hSS;clear hSS;refine(l01Sum_any v4 FH uQ w4 (il (O oS) (by omega)) (O HFB) h0 Z).mono ?_;rw[O qJ];rintro e w5 ⟨rfl,hw5⟩;rw[hw5];clear hw5 w5;go_wp2_with fail;refine O xw _ _ ?_;clear xw;have oz:=mc w4 (me #[.int .u8 (S / 256),.int .u8 (S % 256)] 5);have HRA:=U (zQ (O oS) oz);have qH:=U (mf (O xQ) oz);have HSZ5:Hid (w.heap.size<=(w4.alloc (me #[.int .u8 (S / 256),.int .u8 (S % 256)] 5)).heap.size):=(O qH).size;clear oz;go_wp2_with (at_builtin;go_must (refine wpList_append_own _ rfl _ _ 22 rfl w.heap.size 5 i0 _ 1 1 Tryz.underlying22 uo ub xX uh rfl (by decide) v4 _ _ rfl (O HRA) (yr w4 0) 2 2 ([S / 256,S % 256].map (Value.int .u8)) rfl rfl (cells_srcE w4 _ _) (one_b _) (by unfold maxLen;omega) (by omega) (O HSZ5) ?_);intro v5 w5 xu F _;have vD:=U xu;have vu:=U F;clear xu F)
 have HN:Hid (BRow w5 w.heap.size v5 (FH ++ [S / 256,S % 256])/\yp w w5):=⟨eL (m:=[S / 256,S % 256]) (O vD),(O qH).grown (O vu) (O qH).size (fun q hq=>((O HRA).lt q hq).1)⟩;clear vD vu;go_wp2_with fail;go_ret2;exact⟨_,by rw[O HSS];rfl,by rw[O HFL];exact(O HN).1,(O HN).2⟩
theorem l06End_any (t:Tt)(ht:t.ok)(w:World) :
  Calls Tryz.prog 22 #[.agg #[H t.a,H t.b,H t.c,H t.d,H t.e,H t.f,H t.g,H t.h]] w fun e w'=>∃v,e=yn v/\BRow w' w.heap.size v (pay t.ns)/\yp w w':=by
 obtain⟨i0,uo,ub,xX,uh⟩:=info_parts Tryz.infoByte;obtain⟨n0,n1,n2,n3,n4,n5,n6,n7⟩:=t;have jj:Hid (∀n ∈ [n0,n1,n2,n3,n4,n5,n6,n7],I6 n):=ht;clear ht;show Calls _ _ _ _ fun e w'=>∃v,e=yn v/\BRow w' w.heap.size v (pay [n0,n1,n2,n3,n4,n5,n6,n7])/\yp w w';simp only;have xG:(w.alloc (me #[H n0,H n1,H n2,H n3,H n4,H n5,H n6,H n7] 44)).heap.size=w.heap.size+1:=size_madeE _ _;have ug:((w.alloc (me #[H n0,H n1,H n2,H n3,H n4,H n5,H n6,H n7] 44)).alloc (me #[H n0,H n1,H n2,H n3,H n4,H n5,H n6,H n7] 3)).heap.size=w.heap.size+1+1:=by rw[size_madeE,xG]
 have ud:=mc w (me #[H n0,H n1,H n2,H n3,H n4,H n5,H n6,H n7] 44);have xy:yp w ((w.alloc (me #[H n0,H n1,H n2,H n3,H n4,H n5,H n6,H n7] 44)).alloc (me #[H n0,H n1,H n2,H n3,H n4,H n5,H n6,H n7] 3)):=ud.alloc (by rw[xG];omega) _;have ui:=U ud;have vO:Hid (World.rangeAt (w.alloc (me #[H n0,H n1,H n2,H n3,H n4,H n5,H n6,H n7] 44)) w.heap.size 0 [H n0,H n1,H n2,H n3,H n4,H n5,H n6,H n7]):=lJ w [H n0,H n1,H n2,H n3,H n4,H n5,H n6,H n7] _;have HI2:Hid (World.rangeAt ((w.alloc (me #[H n0,H n1,H n2,H n3,H n4,H n5,H n6,H n7] 44)).alloc (me #[H n0,H n1,H n2,H n3,H n4,H n5,H n6,H n7] 3)) (w.heap.size+1) 0 [H n0,H n1,H n2,H n3,H n4,H n5,H n6,H n7]):=by have:=lJ (w.alloc (me #[H n0,H n1,H n2,H n3,H n4,H n5,H n6,H n7] 44)) [H n0,H n1,H n2,H n3,H n4,H n5,H n6,H n7] 3;rw[xG] at this;exact this
 have xz:=U xy;have qO:Hid (BRow (((w.alloc (me #[H n0,H n1,H n2,H n3,H n4,H n5,H n6,H n7] 44)).alloc (me #[H n0,H n1,H n2,H n3,H n4,H n5,H n6,H n7] 3)).alloc (me #[] 5)) (w.heap.size+1+1) (.slice (some (Y (w.heap.size+1+1) 0)) 0 0) []):=by have:=World.ownsRow_made (base:=w.heap.size+1+1) (e:=5) (size:=1) ((w.alloc (me #[H n0,H n1,H n2,H n3,H n4,H n5,H n6,H n7] 44)).alloc (me #[H n0,H n1,H n2,H n3,H n4,H n5,H n6,H n7] 3)) #[] 0 (by rw[ug];omega) (by decide) rfl;rw[ug] at this;exact this
 have xL:Hid (Below (w.heap.size+1+1) ((w.alloc (me #[H n0,H n1,H n2,H n3,H n4,H n5,H n6,H n7] 44)).alloc (me #[H n0,H n1,H n2,H n3,H n4,H n5,H n6,H n7] 3)) (((w.alloc (me #[H n0,H n1,H n2,H n3,H n4,H n5,H n6,H n7] 44)).alloc (me #[H n0,H n1,H n2,H n3,H n4,H n5,H n6,H n7] 3)).alloc (me #[] 5))):=(Below.refl _ _).alloc (by rw[ug];omega) _;have jz:Hid (w.heap.size+1+1<=(((w.alloc (me #[H n0,H n1,H n2,H n3,H n4,H n5,H n6,H n7] 44)).alloc (me #[H n0,H n1,H n2,H n3,H n4,H n5,H n6,H n7] 3)).alloc (me #[] 5)).heap.size):=by show _ <= _;rw[size_madeE,ug];omega
 have xZ:=U ug;clear ud xy xG ug;go_enter Tryz.func22,Tryz.ntmps22;refine mg fun hb xw=>?_;go_wp2_with fail;refine O xw _ _ ?_;clear xw;obtain⟨z0,z1,z2,z3,z4,z5,z6,z7⟩:=yE (O vO);refine mg fun hb xw=>?_;go_wp2_with fail;refine O xw _ _ ?_;clear xw;clear z0 z1 z2 z3 z4 z5 z6 z7;refine mg fun hb xw=>?_;go_wp2_with fail;refine O xw _ _ ?_;clear xw;generalize (((w.alloc (me #[H n0,H n1,H n2,H n3,H n4,H n5,H n6,H n7] 44)).alloc (me #[H n0,H n1,H n2,H n3,H n4,H n5,H n6,H n7] 3)).alloc (me #[] 5))=X3 at qO xL jz |-;generalize ((w.alloc (me #[H n0,H n1,H n2,H n3,H n4,H n5,H n6,H n7] 44)).alloc (me #[H n0,H n1,H n2,H n3,H n4,H n5,H n6,H n7] 3))=X2 at HI2 xz xL xZ;clear vO ui;refine mg fun hb xw=>?_;go_wp2_with fail;go_loopw [4,5] (fun ov iv wr=>∃(k:Nat),k<=8/\iv=H k/\Hid (BRow wr (w.heap.size+1+1) ov (pay ([n0,n1,n2,n3,n4,n5,n6,n7].take k))/\Below (w.heap.size+1+1) X2 wr)) (fun _ iv _=>8-(intOf iv).toNat)
 case atStart=>exact⟨0,by omega,rfl,O qO,O xL⟩
 case round =>
  obtain⟨k,E,rfl,ue⟩:=hrel
  by_cases xK:k<8
  ·obtain⟨n,hkn⟩:∃n,[n0,n1,n2,n3,n4,n5,n6,n7][k]? = some n:=⟨_,yI (by simpa using xK)⟩;have uM:Hid (pay ([n0,n1,n2,n3,n4,n5,n6,n7].take (k+1))=pay ([n0,n1,n2,n3,n4,n5,n6,n7].take k)++putU (zz n)):=gD [n0,n1,n2,n3,n4,n5,n6,n7] hkn;have um:=O jj n (yP hkn);obtain⟨xN,xl⟩:=O ue;have uJ:=eZ ([n0,n1,n2,n3,n4,n5,n6,n7].take k) (fun m hm=>O jj m (List.mem_of_mem_take hm));have qY:(pay ([n0,n1,n2,n3,n4,n5,n6,n7].take k)).length<=80:=yO uJ (by simp;omega)
   have hvk:([H n0,H n1,H n2,H n3,H n4,H n5,H n6,H n7]:List Value)[k]? = some (H n):=by
    have:([H n0,H n1,H n2,H n3,H n4,H n5,H n6,H n7]:List Value) = [n0,n1,n2,n3,n4,n5,n6,n7].map (H):=rfl;rw[this,List.getElem?_map,hkn];rfl
   have q:wr.cell? (Y (w.heap.size+1) k)=some (H n):=by
    have Z:=O HI2 k _ hvk;rw[Nat.zero_add] at Z;exact(xl.cell (p:=(Y (w.heap.size+1) k)) (show w.heap.size+1<w.heap.size+1+1 by omega)).trans Z
   generalize pay ([n0,n1,n2,n3,n4,n5,n6,n7].take k)=L at xN uM qY;have oy:=U xN;have uC:=U xl;have ux:(k:Int)<8:=by omega
   have pP:(0:Int)<=k:=by omega
   clear xN xl uJ ue hvk hkn;go_wp2_with fail;refine(eF n wr um.1 um.2).mono ?_;rintro e w2 ⟨v2,rfl,ur,xy⟩;have vj:=zH _ (dy n um.1 um.2);obtain⟨g,cp,rfl,jn,vd⟩:=gj ur;have uk:=U vd;have vv:=U (zQ (O oy) xy);have hX2:w.heap.size+1+1<=wr.heap.size:=by have:=(O uC).size;have:=O xZ;omega
   have jD:Hid (w.heap.size+1+1<=w2.heap.size):=yO hX2 xy.size;have xQ:=U ((O uC).trans (xy.mono hX2));clear ur xy vd q;generalize putU (zz n)=P at uM vj uk |-;go_wp2_with (at_builtin;go_must (refine wpList_append_own _ rfl _ _ 22 rfl (w.heap.size+1+1) 5 i0 _ 1 1 Tryz.underlying22 uo ub xX uh rfl (by decide) u4 _ _ rfl (O vv) (Y g 0) _ cp (P.map (Value.int .u8)) rfl (by simp) (O uk) (one_b _) (by unfold maxLen;omega) (by omega) (O jD) ?_);intro v3 w3 xu F _;have vD:=U xu;have vu:=U F;clear xu F)
   have HN:Hid (BRow w3 (w.heap.size+1+1) v3 (pay ([n0,n1,n2,n3,n4,n5,n6,n7].take (k+1)))/\Below (w.heap.size+1+1) X2 w3):=by
    rw[O uM];exact⟨eL (O vD),(O xQ).grown (O vu) (O jD) (fun q hq=>((O vv).lt q hq).1)⟩
   clear vD vu;go_wp2_with fail;go_roundw
   case rel=>exact⟨k+1,by omega,by go_num,O HN⟩
   case measure=>simp[intOf];omega
  ·obtain rfl:k=8:=by omega
   have br:Hid (BRow wr (w.heap.size+1+1) u4 (pay [n0,n1,n2,n3,n4,n5,n6,n7])/\Below (w.heap.size+1+1) X2 wr):=O ue;clear ue;go_wp2_with fail;refine O xw _ _ ?_;clear xw;go_wp2_with fail;go_ret;exact⟨_,rfl,bRow_base (O br).1 (by omega),(O xz).trans ((O br).2.mono (by omega))⟩

theorem fr_at (a r p:List Int)(m s:Int)(hm:m=71\/m=69)(hp:p.length<=8192):frA (a++(frL m p s++r)) a.length s=some (m,a.length+1+(putU (zz p.length)).length,a.length+1+(putU (zz p.length)).length+p.length,frS m p s):=by
 have e0:a++(frL m p s++r)=a++(m::(putU (zz p.length)++(p++(frS m p s / 256::frS m p s % 256::r)))):=by simp[frL,frH]
 have g0:(a++(frL m p s++r)).getD a.length 0=m:=by rw[e0];simp
 have g1:getU (a++(frL m p s++r)) (a.length+1)=some (zz p.length,a.length+1+(putU (zz p.length)).length):=by
  have h:=getU_putR (a ++ [m]) (p++(frS m p s / 256::frS m p s % 256::r)) (zz p.length) (dy _ (by omega) (by omega));rw[e0];simpa using h
 have xC:(a++(frL m p s++r)).length=a.length+1+(putU (zz p.length)).length+p.length+2+r.length:=by rw[e0];simp;omega
 have hd:((a++(frL m p s++r)).drop a.length).take (a.length+1+(putU (zz p.length)).length+p.length-a.length)=frH m p:=by
  rw[List.drop_left,frL,List.append_assoc];refine List.take_left' ?_;simp[frH];omega
 have g2:(a++(frL m p s++r)).getD (a.length+1+(putU (zz p.length)).length+p.length) 0=frS m p s / 256:=by
  have e1:a++(frL m p s++r)=(a++frH m p)++(frS m p s / 256::frS m p s % 256::r):=by simp[frL]
  have e2:a.length+1+(putU (zz p.length)).length+p.length=(a++frH m p).length:=by simp[frH];omega
  rw[e1,e2];simp
 have g3:(a++(frL m p s++r)).getD (a.length+1+(putU (zz p.length)).length+p.length+1) 0=frS m p s % 256:=by
  have e1:a++(frL m p s++r)=(a++frH m p ++ [frS m p s / 256])++(frS m p s % 256::r):=by simp[frL]
  have e2:a.length+1+(putU (zz p.length)).length+p.length+1=(a++frH m p ++ [frS m p s / 256]).length:=by simp[frH];omega
  rw[e1,e2];simp
 have hy:=frA_yes (s:=s) (by omega) (by rw[g0];exact hm) g1 (unz_zz _) hp (by omega) (by rw[hd,g2,g3];show _ = frS m p s;omega);rw[hd,g0] at hy;exact hy
theorem evs_pay:∀(es:List Ev) (pre:List Int) (g:Gr) (acc:List Ev),(∀e∈es,e.fit/\1<=e.kind/\e.kind<=9)->(runG g (es.map bkE)).2=0->evsK (pre++payE es) pre.length g acc = .ok (runG g (es.map bkE)).1 (acc++es.map bkE)
 | [],pre,g,acc,_,_=>by rw[evsK_end (by simp[payE])];simp[runG]
 | e::r,pre,g,acc,hf,h0=>by
  obtain⟨Z,Q,I⟩:=hf e (by simp);have ep:payE (e::r)=evL e++payE r:=by simp[payE]
  have hr:zK g (bkE e)=0:=by
   rw[List.map_cons,runG] at h0;split at h0
   ·assumption
   ·next hn=>exact absurd h0 hn
  have ha:evA (pre++(evL e++payE r)) pre.length=some (bkE e,pre.length+(evL e).length):=by
   have:=evA_app pre (evL e++payE r) 0;rw[evA_wr e Z ((shF_ne e.kind).2 ⟨Q,I⟩)] at this;simpa using this
  have hl:=im e Z;rw[ep,evsK_go (by simp;omega) ha hr];have hi:=evs_pay r (pre++evL e) (dG g (bkE e)) (acc ++ [bkE e]) (fun x hx=>hf x (by simp[hx])) (by rw[List.map_cons,runG,if_pos hr] at h0;exact h0);rw[List.append_assoc,yQ] at hi;rw[hi,List.map_cons,runG,if_pos hr];simp
def Mh (x:Int):Prop:=-9223372036854775808<=x/\x<=9223372036854775807
structure CmFit (c:Cm):Prop where
 k:Mh c.k
 s:Mh c.s
 t:Mh c.t
 l:Mh c.l
 q:Mh c.q
 i:Mh c.i
 p:c.p<18446744073709551616
 g:c.g.size<=20
theorem gh {x:Int}(h0:-1000000<=x)(Z:x<=1000000):Mh x:=⟨by omega,by omega⟩
theorem fit_of {e:Ev}(hc:CmFit e.cmd)(E:Mh e.kind)(Z:Mh e.id)(Q:Mh e.other)(I:Mh e.qty)(h4:Mh e.price)(h5:Mh e.reason):e.fit:=by
 refine⟨fun o=>?_,E,hc.p,yO hc.g (by unfold maxLen;omega)⟩;unfold Ev.num;split
 ·exact hc.k
 ·exact hc.s
 ·exact hc.t
 ·exact hc.l
 ·exact hc.q
 ·exact hc.i
 ·exact Z
 ·exact Q
 ·exact I
 ·exact h4
 ·exact h5
 ·exact⟨by decide,by decide⟩
theorem zCm_fit:CmFit zCm:=⟨⟨by decide,by decide⟩,⟨by decide,by decide⟩,⟨by decide,by decide⟩,⟨by decide,by decide⟩,⟨by decide,by decide⟩,⟨by decide,by decide⟩,by decide,by decide⟩
theorem cut_fit {c:Cm}(h:CmFit c):CmFit (cutC c):=⟨h.k,h.s,h.t,h.l,h.q,h.i,h.p,yO (gL _) (by decide)⟩
theorem mat_fit {c:Cm}{id N:Int}(vl:Mh id):∀(n:Nat) (l:List Od) (left:Int) (ts:List Ev),GoodL l->0<=left->left<=1000000->(∀o∈l,Mh o.id/\Mh o.ticks)->(∀e∈ts,e.fit)->∀e∈(matL c id n l left ts).2.2,e.fit
 | 0,l,left,ts,h,h0,Z,hi,ht=>ht
 | n+1,l,left,ts,h,h0,Z,hi,ht=>by
  rw[matL]
  by_cases hl:0<left
  ·rw[if_pos hl];cases hf:dv l (othS c.s) with
   | none=>exact ht
   | some o =>
    simp only
    by_cases hm:dL c o=true
    ·rw[if_pos hm];obtain⟨un,_⟩:=fL hf;obtain⟨k,E⟩:=List.getElem?_of_mem un;have D:=h.left o un;rw[fd h.rise E,Int.toNat_natCast];refine mat_fit (N:=N) vl n _ _ _ (eT h E (by omega) (by omega)).1 (by omega) (by omega) (fun x hx=>?_) (fun e he=>?_)
     ·rw[db] at hx;split at hx
      ·rcases List.mem_append.1 hx with hx|hx
       ·exact hi x (List.mem_of_mem_take hx)
       ·exact hi x (List.mem_of_mem_drop hx)
      ·rcases List.mem_or_eq_of_mem_set hx with hx|rfl
       ·exact hi x hx
       ·exact hi o un
     ·rcases List.mem_append.1 he with he|he
      ·exact ht e he
      ·rw[List.mem_singleton.1 he];exact fit_of zCm_fit ⟨by show(-9223372036854775808:Int)<=3;decide,by show(3:Int) <= _;decide⟩ vl (hi o un).1 (gh (by show -1000000<=min left o.left;omega) (by show min left o.left<=1000000;omega)) (hi o un).2 ⟨by show(-9223372036854775808:Int)<=0;decide,by show(0:Int) <= _;decide⟩
    ·rw[if_neg hm];exact ht
  ·rw[if_neg hl];exact ht
theorem ref_mh (n:Int)(l:List Od)(c:Cm):Mh (refR n l c):=by
 have f:∀x:Int,0<=x/\x<=20->Mh x:=fun x h=>gh (by omega) (by omega);refine f _ ?_
 have hm:∀hg:List Od × Int × List Ev,0<=matR n c hg/\matR n c hg<=20:=fun hg=>by
  rw[matR];repeat' split
  all_goals omega
 have hn:0<=newR n l c/\newR n l c<=20:=by
  rw[newR];repeat' split
  all_goals first|omega|exact hm _
 have hi:∀i,0<=idR l i/\idR l i<=20:=fun i=>by rw[idR];split <;> omega
 have hr:∀i q,0<=redR l i q/\redR l i q<=20:=fun i q=>by
  unfold redR
  repeat' split
  all_goals omega
 rw[refR];repeat' split
 all_goals first|omega|exact hn|exact hi _ | exact hr _ _
theorem ord_ticks {o:Od}(h:ordB o=true):1<=o.ticks/\o.ticks<=1000000:=by
 simp[ordB,betB] at h;omega
theorem stE_fit {n:Int}{l:List Od}{c:Cm}(h:OkB n l)(hc:CmFit c):∀e∈stE n l c,e.fit:=by
 have F:=gC h;have z:Mh 0:=⟨by decide,by decide⟩;have hkd:∀x:Int,0<=x->x<=9->Mh x:=fun x a b=>gh (by omega) (by omega);have hn:Mh n:=gh (by have:=h.n1;omega) h.n2
 have vl:∀o∈l,Mh o.id/\Mh o.ticks:=fun o D=>by
  have Z:=h.id0 o D;have Q:=h.ids o D;have I:=h.n2;have h4:=ord_ticks (h.ord o D);exact⟨gh (by omega) (by omega),gh (by omega) (by omega)⟩
 rw[stE]
 by_cases h0:refR n l c=0
 ·rw[if_pos h0]
  by_cases E:c.k=1
  ·rw[if_pos E];have hq:=iL h0 E;have hm:=mat_fit (c:=c) (N:=n) hn 21 l c.q [] F (by omega) hq.2 vl (by simp);obtain⟨g1,g2,g3⟩:=fY (c:=c) (id:=n) 21 l c.q [] F (by omega) hq.2;have hf:=form1 h0 E;rw[accE,List.cons_append];intro e he;rcases List.mem_cons.1 he with rfl|he
   ·exact fit_of (by show CmFit ⟨1,c.s,c.t,c.l,c.q,0,c.p,c.g⟩;rw[<- hf];exact hc) (hkd _ (by show(0:Int)<=1;decide) (by show(1:Int)<=9;decide)) hn z z z z
   ·rcases List.mem_append.1 he with he|he
    ·exact hm e he
    ·split at he
     ·rw[List.mem_singleton.1 he];refine fit_of zCm_fit ?_ hn z (gh (by show -1000000<=(matL c n 21 l c.q []).2.1;omega) g3) z z;show Mh (if dj c.t=true then 4 else 5)
      split
      ·exact hkd _ (by decide) (by decide)
      ·exact hkd _ (by decide) (by decide)
     ·cases he
  ·rw[if_neg E];split
   ·split
    ·next o D =>
     intro e he;rw[List.mem_singleton.1 he];have hL:=F.left o (yP D);exact fit_of zCm_fit (hkd _ (by show(0:Int)<=6;decide) (by show(6:Int)<=9;decide)) hc.i z (gh (by show -1000000<=o.left;omega) hL.2) z z
    ·intro e he;cases he
   ·split
    ·intro e he;rw[List.mem_singleton.1 he];exact fit_of zCm_fit (hkd _ (by show(0:Int)<=7;decide) (by show(7:Int)<=9;decide)) hc.i z hc.q z z
    ·intro e he;rcases List.mem_cons.1 he with rfl|he
     ·have Z:=List.length_filter_le dyB l;have Q:=F.len;exact fit_of zCm_fit (hkd _ (by show(0:Int)<=8;decide) (by show(8:Int)<=9;decide)) z z (gh (by show -1000000<=(((l.filter dyB).length:Nat):Int);omega) (by show(((l.filter dyB).length:Nat):Int)<=1000000;omega)) z z
     ·obtain⟨o,D,rfl⟩:=List.mem_map.1 he;have hm:=(List.mem_filter.1 D).1;have hL:=F.left o hm;exact fit_of zCm_fit (hkd _ (by show(0:Int)<=9;decide) (by show(9:Int)<=9;decide)) (vl o hm).1 z (gh (by show -1000000<=o.left;omega) hL.2) z z
 ·rw[if_neg h0];intro e he;rw[List.mem_singleton.1 he];exact fit_of (cut_fit hc) (hkd _ (by show(0:Int)<=2;decide) (by show(2:Int)<=9;decide)) z z z z (ref_mh n l c)
end Go.Proofs.YtkofhemdefffpaaGreatDoor
namespace Go.Proofs.YtkofhemdefffpaaGreatDoor
open Go.RowKit Ieee
set_option linter.unusedVariables false
theorem tkOk_nan {x:Nat}(h:nanB x=true):tkOk x=false:=by
 cases E:tkOk x
 ·rfl
 exfalso;have Z:=(nan_iff x).1 h
 have e:FloatKind.f64.format.order x 0=none:=by
  show(double.read x).order (double.read 0)=none;cases hx:double.read x with
  | nan s f=>rfl
  | infinity s=>rw[hx] at Z;simp[Datum.isNaN] at Z
  | number s m i=>rw[hx] at Z;simp[Datum.isNaN] at Z
 rw[tkOk,e] at E;simp at E
theorem iD {x:Nat}(h:nanB x=true):fbit x=9221120237041090560:=by rw[fbit,if_pos h]
theorem prcB_nan {c:Cm}(h:nanB c.p=true):prcB c=false:=by
 rw[prcB];split
 ·rw[iD h];rfl
 ·exact tkOk_nan h
theorem cmEq_cases {c d:Cm}(h:CmEq c d):c=d\/(nanB c.p=true/\nanB d.p=true):=by
 obtain⟨k,s,t,l,q,i,p,g⟩:=c;obtain⟨k',s',t',l',q',i',p',g'⟩:=d;obtain⟨rfl,rfl,rfl,rfl,rfl,rfl,hp,rfl⟩:=h;rcases hp with e|h
 ·left;have e:p=p':=e;rw[e]
 ·exact .inr ⟨h.1,h.2.1⟩
theorem newR_nan {n:Int}{l:List Od}{c:Cm}(h:nanB c.p=true):newR n l c=if betB c.s 1 2=false then 3 else if betB c.t 1 5=false then 4 else if lifW c=true then 5 else 6:=by
 rw[newR,prcB_nan h,if_pos rfl]
theorem refR_nan {n:Int}{l:List Od}{c:Cm}(h:nanB c.p=true) :
  refR n l c=if c.k=1 then(if c.i=0 then(if betB c.s 1 2=false then 3 else if betB c.t 1 5=false then 4 else if lifW c=true then 5 else 6) else 2) else if c.k=2 then 2 else if c.k=3 then 2 else if c.k=4 then 2 else 1:=by
 have hz:fbit 0=0:=by decide +kernel
 have hn:(fbit 0==fbit c.p)=false:=by rw[hz,iD h];rfl
 rw[refR]
 by_cases Z:c.k=1
 ·rw[if_pos Z,if_pos Z,newR_nan h]
  have e:dd ⟨1,c.s,c.t,c.l,c.q,0,c.p,c.g⟩ c=decide (c.i=0):=by
   rw[dd];simp only[Z,beq_self_eq_true,Bool.true_and,decide_true,Bool.and_true]
   by_cases hi:c.i=0
   ·rw[hi];rfl
   ·rw[decide_eq_false hi];simpa using fun e=>hi e.symm
  rw[e]
  by_cases hi:c.i=0
  ·rw[if_pos (by simpa using hi),if_pos hi]
  ·rw[if_neg (by simpa using hi),if_neg hi]
 ·rw[if_neg Z,if_neg Z]
  have e:∀a b:Int,∀k2:Int,∀g,dd ⟨k2,0,0,0,a,b,0,g⟩ c=false:=fun a b k2 g=>by
   rw[dd];simp only[hn,Bool.false_and,Bool.and_false]
  rw[e,e,e];simp only[if_neg Bool.false_ne_true]
theorem refR_nz {n:Int}{l:List Od}{c:Cm}(h:nanB c.p=true):refR n l c≠0:=by
 rw[refR_nan h]
 repeat' split
 all_goals decide
structure EvEq (e f:Ev):Prop where
 kind:e.kind=f.kind
 cmd:CmEq e.cmd f.cmd
 id:e.id=f.id
 other:e.other=f.other
 qty:e.qty=f.qty
 price:e.price=f.price
 reason:e.reason=f.reason
theorem cmEq_refl (c:Cm):CmEq c c:=⟨rfl,rfl,rfl,rfl,rfl,rfl,.inl rfl,rfl⟩
theorem evEq_refl (e:Ev):EvEq e e:=⟨rfl,cmEq_refl _,rfl,rfl,rfl,rfl,rfl⟩
def EsEq:List Ev->List Ev->Prop
 | [],[]=>True
 | c::cs,d::ds=>EvEq c d/\EsEq cs ds
 | _,_=>False
theorem esEq_refl:∀es:List Ev,EsEq es es
 | []=>True.intro
 | e::es=>⟨evEq_refl e,esEq_refl es⟩
theorem step_eq {n:Int}{l:List Od}{c d:Cm}(h:CmEq c d):stN n l c=stN n l d/\stL n l c=stL n l d/\EsEq (stE n l c) (stE n l d):=by
 rcases cmEq_cases h with rfl|⟨hc,hd⟩
 ·exact⟨rfl,rfl,esEq_refl _⟩
 ·have zc:=refR_nz (n:=n) (l:=l) hc;have zd:=refR_nz (n:=n) (l:=l) hd
  have e:refR n l c=refR n l d:=by
   rw[refR_nan hc,refR_nan hd,h.k,h.i,h.s,h.t];have:lifW c=lifW d:=by rw[lifW,lifW,h.l,h.t]
   rw[this]
  refine⟨?_,?_,?_⟩
  ·rw[stN,stN,if_neg (fun x=>zc x.1),if_neg (fun x=>zd x.1)]
  ·rw[stL,stL,if_neg zc,if_neg zd]
  ·rw[stE,stE,if_neg zc,if_neg zd,e];exact⟨⟨rfl,⟨h.k,h.s,h.t,h.l,h.q,h.i,h.p,by show cutB c.g=cutB d.g;rw[h.g]⟩,rfl,rfl,rfl,rfl,rfl⟩,True.intro⟩
theorem cnt_eq {t:Tot}{e f:Ev}(h:EvEq e f):cntE t e=cntE t f:=by
 unfold cntE;rw[h.kind,h.qty,h.price]
theorem wg_eq:∀ {es fs:List Ev}(t:Tot),EsEq es fs->wgT t es=wgT t fs:=by
 have e:∀ {es fs:List Ev} (t:Tot),EsEq es fs->es.foldl cntE t=fs.foldl cntE t:=by
  intro es
  induction es with
  | nil=>intro fs t h;cases fs with|nil=>rfl|cons=>exact h.elim
  | cons a es ih=>intro fs t h;cases fs with
   | nil=>exact h.elim
   | cons b fs=>rw[List.foldl_cons,List.foldl_cons,cnt_eq h.1];exact ih _ h.2
 intro es fs t h;unfold wgT;rw[e _ h]
end Go.Proofs.YtkofhemdefffpaaGreatDoor
namespace Go.Proofs.YtkofhemdefffpaaGreatDoor
open Go.RowKit
theorem gov_ok {N:Int}{L:List Od}:∀ {es:List Ev} {g:Gr},Gov g es N L->∀e∈es,okE e=true
 | [],_,_,_,h=>nomatch h
 | x::es,g,h,e,he=>by
  rcases List.mem_cons.1 he with rfl|he
  ·exact h.1
  ·exact gov_ok h.2.2.2 e he
def nC (c:Cm):Cm:={ c with p:=fbit c.p }
theorem cmEq_n {c:Cm}(h:c.p<18446744073709551616):CmEq (nC c) c:=by
 refine⟨rfl,rfl,rfl,rfl,rfl,rfl,?_,rfl⟩;show PEq (fbit c.p) c.p;cases hn:nanB c.p with
 | true=>exact .inr ⟨by rw[iD hn];decide +kernel,hn,by rw[iD hn];decide,h⟩
 | false=>exact .inl (by rw[fbit,if_neg (by rw[hn];decide)])
theorem pEq_bit {a b:Nat}(h:PEq a b):fbit a=fbit b:=by
 rcases h with h|⟨Z,Q,-⟩
 ·rw[h]
 ·rw[iD Z,iD Q]
theorem toList_ext {a b:ByteArray}(h:a.toList=b.toList):a=b:=by
 have Z:a.data.toList=b.data.toList:=by simpa[ByteArray.toList_eq] using h
 cases a;cases b;simp only at Z;congr 1;exact Array.toList_inj.1 Z
theorem bk_norm (e:Ev)(E:1<=e.kind/\e.kind<=9):fbit (bkE e).cmd.p=(bkE e).cmd.p:=by
 obtain⟨xn,⟨ck,cs,ct,cl,cq,ci,cp,cg⟩,id,xj,qty,xk,xi⟩:=e;simp only at E;rcases(show xn=1\/xn=2\/xn=3\/xn=4\/xn=5\/xn=6\/xn=7\/xn=8\/xn=9 by omega) with rfl|rfl|rfl|rfl|rfl|rfl|rfl|rfl|rfl
 all_goals simp[bkE,shF,ev0,shC,bkF,Ev.put,fbit_two,gz]
theorem bk_of {e f:Ev}(E:1<=e.kind/\e.kind<=9)(D:okE e=true)(hq:EvEq f e)(hn:fbit f.cmd.p=f.cmd.p):f=bkE e:=by
 have Z:=(okE_eq e E).trans D;have Q:=bk_norm e E;have I:=pEq_bit hq.cmd.p;generalize bkE e=b at Z Q |-;obtain⟨bk,⟨b1,b2,b3,b4,b5,b6,b7,b8⟩,b9,b10,b11,qE,b13⟩:=b;obtain⟨ek,⟨e1,e2,e3,e4,e5,e6,e7,e8⟩,e9,vQ,vY,qq,qF⟩:=e;obtain⟨fk,⟨f1,f2,f3,f4,f5,f6,f7,f8⟩,f9,f10,f11,f12,f13⟩:=f;obtain⟨q1,⟨q2,q3,q4,q5,q6,q7,q8,q9⟩,q10,q11,q12,q13,q14⟩:=hq;simp only[sameE,xf,beq_iff_eq,xg] at Z Q I hn q1 q2 q3 q4 q5 q6 q7 q9 q10 q11 q12 q13 q14;obtain⟨r1,r2,r3,r4,r5,r6,r7,r8,r9,r10,r11,r12,r13,r14⟩:=Z;have r15:=toList_ext r14;have h7:f7=b7:=by rw[<- hn,I,<- r13,Q]
 subst r1 r2 r3 r4 r5 r6 r7 r8 r9 r10 r11 r12 r15 q1 q2 q3 q4 q5 q6 q7 q9 q10 q11 q12 q13 q14 h7;rfl
theorem head_p {n:Int}{l:List Od}{d:Cm}{e:Ev}{es:List Ev}(h:stE n l d=e::es)(E:e.kind=1\/e.kind=2):e.cmd.p=d.p:=by
 rw[stE] at h;split at h
 ·split at h
  ·rw[accE] at h;cases h;rfl
  ·split at h
   ·split at h
    ·cases h;simp at E
    ·cases h
   ·split at h
    ·cases h;simp at E
    ·cases h;simp at E
 ·cases h;rfl
theorem stE_norm {n:Int}{l:List Od}{d:Cm}(F:GoodL l)(hd:fbit d.p=d.p):∀f∈stE n l d,fbit f.cmd.p=f.cmd.p:=by
 intro f hf;have D:=gov_ok (iJ (n:=n) (c:=d) F) f hf
 by_cases E:f.kind=1\/f.kind=2
 ·obtain⟨e,es,he,-⟩:=told_one (n:=n) d F;have ht:=tail_kinds (n:=n) (c:=d) F;rw[he] at hf ht;rcases List.mem_cons.1 hf with rfl|hf
  ·rw[head_p he E,hd]
  ·have:=ht f (by simpa using hf);omega
 ·unfold okE at D;split at D
  ·cases D
  split at D
  ·cases D
  rw[if_neg (by omega),if_neg (by omega)] at D;simp only[fT,xf,beq_iff_eq] at D;have:=fbit_zero D.2.2.2.2.2.2.1;rw[this,gz]
theorem es_map:∀ {fs es:List Ev},EsEq fs es->(∀f∈fs,fbit f.cmd.p=f.cmd.p)->(∀e∈es,okE e=true)->fs=es.map bkE
 | [],[],_,_,_=>rfl
 | [],_ :: _,h,_,_=>by simp[EsEq] at h
 | _ :: _,[],h,_,_=>by simp[EsEq] at h
 | f::fs,e::es,h,Z,Q=>by
  obtain⟨I,h4⟩:=h;have D:=Q e (by simp);rw[List.map_cons,bk_of (fh D) D I (Z f (by simp)),es_map h4 (fun x hx=>Z x (by simp[hx])) (fun x hx=>Q x (by simp[hx]))]
theorem gov_run {N:Int}{L:List Od}:∀ {es:List Ev} {g:Gr},Gov g es N L->(runG g es).2=0/\endR (runG g es).1=0
 | [],g,h=>by
  obtain⟨Z,Q,-⟩:=h;refine⟨rfl,?_⟩;show endR g=0;unfold endR;rw[if_neg (by rintro(h|h) <;> contradiction)]
 | e::r,g,h=>by
  obtain⟨-,Z,-,Q⟩:=h;rw[runG,if_pos Z];exact gov_run Q
theorem grp_n {n:Int}{l:List Od}{c:Cm}{ds:List Cm}(hB:OkB n l)(hc:CmFit c)(Z:(runS ds).n=n)(Q:(runS ds).l=l):∃d,grpJ (payE (stE n l c)) ds = .inr d/\stN n l d=stN n l c/\stL n l d=stL n l c/\EsEq (stE n l d) (stE n l c):=by
 have F:=gC hB;obtain⟨e,es,he,-,-,t1,t2,t3⟩:=told_one (n:=n) c F;have ak:=stE_fit (n:=n) hB hc;have uA:=gov_ok (iJ (n:=n) (c:=c) F)
 have hp:(da e).p<18446744073709551616:=by
  have:=(ak e (by rw[he];simp)).p;unfold da
  repeat' split
  all_goals first|exact this|(show 0<18446744073709551616;decide)
 obtain⟨s1,s2,s3⟩:=step_eq (n:=n) (l:=l) (cmEq_n hp);rw[t3] at s3;have hm:stE n l (nC (da e))=(stE n l c).map bkE:=es_map s3 (stE_norm F (fbit_two _)) uA;obtain⟨e2,es2,he2,-,-,u1,u2,u3⟩:=told_one (n:=n) (nC (da e)) F;refine⟨da e2,?_,u1.trans (s1.trans t1),u2.trans (s2.trans t2),by rw[u3];exact s3⟩;have hr:=gov_run (iJ (n:=n) (c:=nC (da e)) F);have hv:=evs_pay (stE n l c) [] (gr0 n l) [] (fun x hx=>⟨ak x hx,fh (uA x hx)⟩) (by rw[<- hm];exact hr.1);rw[<- hm,he2] at hv;rw[he2] at hr;unfold grpJ;rw[Z,Q];simp only[List.nil_append,List.length_nil] at hv;rw[hv];simp only[hr.2,if_true];rfl

theorem enc_any (e:Ev)(w:World)(he:e.fit)(E:1<=e.kind/\e.kind<=9):Calls Tryz.prog 42 #[evV e] w fun r w'=>∃v,r=yn v/\OwnT w.heap.size w' v (evL e)/\yp w w':=by
 by_cases Z:e.kind=1
 ·exact enc1_any e w he Z
 ·by_cases Q:e.kind=2
  ·exact enc2_any e w he Q
  ·exact encN_any e w he (by omega)
theorem l06Payload_any (v:Value)(l:List Ev)(w:World)(hr:RdR Ev.vs 14 w v l)(hf:∀e∈l,e.fit)(hk9:∀e∈l,1<=e.kind/\e.kind<=9)(hl4:l.length<=4096):Calls Tryz.prog 21 #[v] w fun r w'=>∃v',r=yn v'/\BRow w' w.heap.size v' (payE l)/\yp w w':=by
 have hsf:=sfl;obtain⟨i0,uo,ub,xX,uh⟩:=info_parts Tryz.infoByte;have HK9:=U hk9;obtain⟨a,cap,rfl,hl,hc⟩:=hr;have HC:=U hc;have HF:=U hf;clear hc hf hk9;have HBR:Hid (BRow (w.alloc (me #[] 5)) w.heap.size (.slice (some (yr w 0)) 0 0) []):=World.ownsRow_made (base:=w.heap.size) (e:=5) (size:=1) w #[] 0 yb (by decide) rfl;go_enter Tryz.func21,Tryz.ntmps21;go_wp2_with fail;go_loopw [3,4] (fun ov iv wr=>∃k:Nat,k<=l.length/\iv=H k/\Hid (BRow wr w.heap.size ov (payE (l.take k))/\yp w wr)) (fun _ iv _=>l.length-(intOf iv).toNat)
 case atStart=>exact⟨0,Nat.zero_le _,rfl,O HBR,by go_grown⟩
 case round =>
  obtain⟨k,E,rfl,ue⟩:=hrel;obtain⟨xN,K⟩:=O ue;have HB:=U K;have vv:=U xN
  by_cases xK:k<l.length
  ·obtain⟨e,oB⟩:∃e,l[k]? = some e:=⟨_,yI xK⟩;obtain⟨b,off,rfl,oY,uK⟩:=O HC (by intro h;rw[h] at xK;simp at xK);have xo:=zf (uK k e oB) K oY;have ux:(k:Int)<l.length:=by omega
   have un:=yP oB;have xC:=payE_len (l.take k) (fun x hx=>O HF x (List.mem_of_mem_take hx))
   have jK:(payE (l.take k)).length<=1048576:=by
    have:(l.take k).length<=4096:=yO (List.length_take_le _ _) (by omega);omega
   have HAD:=U (enc_any e wr (O HF e un) (O HK9 e un));have hel:=(im e (O HF e un)).2;have HM:=U (payE_more l k e oB);generalize payE (l.take k)=L at *;generalize evL e=EL at *;obtain⟨xn,⟨ck,cs,ct,cl,cq,ci,cp,cg⟩,id,xj,qty,xk,xi⟩:=e;unfold evV at HAD;simp only at HAD;have x0:wr.cell? (Y b (off+k*14)) = _:=xo 0 _ rfl;have x1:=xo 1 _ rfl;have x2:=xo 2 _ rfl;have x3:=xo 3 _ rfl;have x4:=xo 4 _ rfl;have x5:=xo 5 _ rfl;have x6:=xo 6 _ rfl;have x7:=xo 7 _ rfl;have x8:=xo 8 _ rfl;have x9:=xo 9 _ rfl;have cY:=xo 10 _ rfl;have x11:=xo 11 _ rfl;have x12:=xo 12 _ rfl;have x13:=xo 13 _ rfl;clear xo uK oB un K xN ue xC;go_wp2_with fail;refine(O HAD).mono ?_;rintro r W3 ⟨v3,rfl,oK,xV⟩;have qO:=U oK;have jP:=U (zQ (O vv) xV);have xL:=U (mf (O HB) xV);clear xV oK x0 x1 x2 x3 x4 x5 x6 x7 x8 x9 cY x11 x12 x13 vv HB;go_wp2_with (at_builtin;go_must (refine zD _ rfl _ _ 22 rfl w.heap.size i0 Tryz.underlying22 uo ub xX uh _ _ rfl (O jP) _ _ _ rfl (O qO) (by omega) (O xL).size ?_);intro ov W4 hr4 jH ha4;have oS:=U hr4;have xQ:=U ((O xL).grown jH (O xL).size (fun q hq=>((O jP).lt q hq).1));clear hr4 jH ha4)
   go_roundw
   case rel=>exact⟨k+1,by omega,by go_num,by rw[O HM];exact O oS,O xQ⟩
   case measure=>simp[intOf];omega
  ·have hk':k=l.length:=by omega
   rw[hk',List.take_length] at xN;have HR:=U xN;clear xN K ue;go_wp2_with fail;go_ret;exact⟨_,rfl,O HR,O HB⟩
theorem payE_bts (l:List Ev)(h:∀e∈l,1<=e.kind/\e.kind<=9):Bts (payE l):=by
 intro x hx;unfold payE at hx;obtain⟨e,he,hx⟩:=List.mem_flatMap.1 hx;exact evL_bts e (h e he) x hx
theorem drIn_fit {c:Cm}(h:DrOk c)(Q:DrIn c):CmFit c:=⟨Q.1,Q.2.1,Q.2.2.1,Q.2.2.2.1,Q.2.2.2.2.1,Q.2.2.2.2.2.1,Q.2.2.2.2.2.2,h.1⟩
end Go.Proofs.YtkofhemdefffpaaGreatDoor
