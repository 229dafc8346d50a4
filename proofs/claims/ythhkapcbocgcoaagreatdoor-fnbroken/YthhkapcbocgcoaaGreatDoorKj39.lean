/-.-/
import Derived.Test.YthhkapcbocgcoaaGreatDoorKj08
import Derived.Test.YthhkapcbocgcoaaGreatDoorKj11
set_option linter.unusedVariables false
set_option maxHeartbeats 6400000
set_option maxRecDepth 100000
namespace Go.Proofs.YthhkapcbocgcoaaGreatDoor
open Go.RowKit
section
variable {mb B:Nat} {W0 V V':World} {vo:Value} {ts:List Ev} {e:Ev} {p q:Prop}
end
theorem rd_grown {w w':World}{v:Value}{l:List Int}{B:Nat}(h:Rd w v l)(X:w.grownBy w' (some B))(hB:l ≠ []->v.ownBlock≠some B):Rd w' v l:=by
 obtain⟨a,cap,rfl,hl,hc⟩:=h;refine⟨a,cap,rfl,hl,fun xr=>?_⟩;obtain⟨b,off,rfl,xt⟩:=hc xr;have E:some b≠some B:=fun e=>hB xr (by simpa[Value.ownBlock] using e);exact⟨b,off,rfl,fun i hi=>(yR (a:=(J b (off+i))) (X.block b (yL w _ (xt i hi)) E)).trans (xt i hi)⟩
structure Src (B:Nat) (w:World) (v:Value) (l:List Int) (m:Int):Prop where
 rd:Rd w v l
 ne:l ≠ []->v.ownBlock≠some B
 bts:Bts l
 code:w.cell? ⟨B,0,none⟩=some v
 cells:∃at_ seed:Int,0<=at_/\at_ <= m/\0<=seed/\seed<2147483648/\w.cell? ⟨B,1,none⟩=some (.int .i64 at_)/\w.cell? ⟨B,2,none⟩=some (.int .i64 seed)
 free1:w.frozen? ⟨B,1,none⟩=false
 free2:w.frozen? ⟨B,2,none⟩=false
def zP (B:Nat)(w:World)(v:Value)(l:List Int)(m:Int)(w':World):Prop:=Src B w' v l m/\w.grownBy w' (some B)
theorem eS {B:Nat}{w:World}{v:Value}{l:List Int}{m:Int}(h:Src B w v l m):zP B w v l m w:=⟨h,yS _ _⟩
theorem eH {B:Nat}{w:World}{v:Value}{l:List Int}{m n:Int}(h:Src B w v l m)(hn:m<=n):Src B w v l n:=by
 obtain⟨D,Y,h3,h4,⟨a,s,k0,k1,k2⟩,h6,h7⟩:=h;exact⟨D,Y,h3,h4,⟨a,s,k0,by omega,k2⟩,h6,h7⟩
theorem fY {B:Nat}{w0 w:World}{v:Value}{l:List Int}{m:Int}(h:zP B w0 v l m w)(q:Nat):zP B w0 v l m (w.drewN q):=
 ⟨⟨h.1.rd,h.1.ne,h.1.bts,h.1.code,h.1.cells,h.1.free1,h.1.free2⟩,zw h.2 (ft _ q _)⟩
theorem src_at {B:Nat}{w0 w:World}{v:Value}{l:List Int}{m:Int}(h:zP B w0 v l m w)(a:Int)(h0:0<=a)(ha:a<=m+1):zP B w0 v l (m+1) (w.setCell (J B 1) (H a)):=by
 obtain⟨h,X⟩:=h;obtain⟨at0,s0,_,_,k2,k3,D,Y⟩:=h.cells;have g:=dX w (J B 1) (H a)
 exact⟨⟨rd_grown h.rd g h.ne,h.ne,h.bts,(yM _ _ _ _ (ei (by omega))).trans h.code,
  ⟨a,s0,h0,ha,k2,k3,yN _ _ _ D,(yM _ _ _ _ (ei (by omega))).trans Y⟩,
  (World.frozen?_setCell _ _ _ _).trans h.free1,(World.frozen?_setCell _ _ _ _).trans h.free2⟩,zw X g⟩
theorem src_seed {B:Nat}{w0 w:World}{v:Value}{l:List Int}{m:Int}(h:zP B w0 v l m w)(s:Int)(h0:0<=s)(hs:s<2147483648):zP B w0 v l m (w.setCell (J B 2) (H s)):=by
 obtain⟨h,X⟩:=h;obtain⟨at0,s0,k0,k1,_,_,D,Y⟩:=h.cells;have g:=dX w (J B 2) (H s)
 exact⟨⟨rd_grown h.rd g h.ne,h.ne,h.bts,(yM _ _ _ _ (ei (by omega))).trans h.code,
  ⟨at0,s,k0,k1,h0,hs,(yM _ _ _ _ (ei (by omega))).trans D,yN _ _ _ Y⟩,
  (World.frozen?_setCell _ _ _ _).trans h.free1,(World.frozen?_setCell _ _ _ _).trans h.free2⟩,zw X g⟩
theorem src_step {B:Nat}{w w1:World}{v:Value}{l:List Int}{m at_ bG:Int}(h:Src B w v l m)(h0:0<=at_)(ha:at_ <= m)(c1:w.cell? (J B 1)=some (H at_))(c2:w.cell? (J B 2)=some (H bG))
  (hw:w.setCell (J B 1) (H (at_ + 1))=w1) :
  zP B w v l (m+1) w1/\w1.cell? (J B 0)=some v/\w1.cell? (J B 1)=some (H (at_ + 1))/\w1.cell? (J B 2)=some (H bG)/\w1.frozen? (J B 2)=false/\Rd w1 v l:=by
 subst hw;have k:=src_at (eS h) (at_ + 1) (by omega) (by omega);exact⟨k,k.1.code,yN _ _ _ c1,(yM _ _ _ _ (ei (by omega))).trans c2,k.1.free2,k.1.rd⟩
theorem seed_step {B:Nat}{w0 w1 w2:World}{v:Value}{l:List Int}{m at_ s:Int}(h:zP B w0 v l m w1)(d1:w1.cell? (J B 1)=some (H at_))(h0:0<=s)(hs:s<2147483648)
  (hw:w1.setCell (J B 2) (H s)=w2) :
  zP B w0 v l m w2/\w2.cell? (J B 0)=some v/\w2.cell? (J B 1)=some (H at_)/\w2.cell? (J B 2)=some (H s)/\Rd w2 v l:=by
 subst hw;obtain⟨_,_,_,_,_,_,_,k⟩:=h.1.cells;have g:=src_seed h s h0 hs;exact⟨g,g.1.code,(yM _ _ _ _ (ei (by omega))).trans d1,yN _ _ _ k,g.1.rd⟩
theorem byte_any (B:Nat)(v:Value)(l:List Int)(m:Int)(w:World)(h:Src B w v l m)(hm:m<=1073741824) :
  Calls Tryz.prog 62 #[I B 0] w fun e w'=>∃y:Int,e=ym (H y)/\0<=y/\y<=255/\zP B w v l (m+1) w':=by
 have HS:=Z h;obtain⟨xS,xr,hbts,hcode,⟨at_,bG,ha0,ha,qJ,hs,c1,c2⟩,f1,f2⟩:=h;have uP:=Z (fun w1 h=>src_step (w1:=w1) (U HS) ha0 ha c1 c2 h);obtain⟨a,cap,rfl,hl,hc⟩:=xS;have HB:=Z hbts;clear hbts hc c2 HS f2 xr;go_enter Tryz.func62,Tryz.ntmps62;go_wp2_with fail;generalize qF:w.setCell (J B 1) (H (at_ + 1))=w1;obtain⟨hE,d0,d1,d2,g2,hrd1⟩:=U uP w1 qF;have HE:=Z hE;obtain⟨a',kG,e',_,hc⟩:=hrd1;simp only[Value.slice.injEq,true_and] at e';obtain⟨rfl,rfl⟩:=e';clear hE uP qF c1 f1 hcode
 by_cases D:at_ + 1<=l.length
 ·have hc':=hc (by intro e;subst e;simp at D;omega);obtain⟨b,off,rfl,xt⟩:=hc';obtain⟨k,rfl⟩:=Int.eq_ofNat_of_zero_le ha0;have hck:=xt k (by omega);have hbk:=bts_get (U HB) k;generalize hx:l.getD k 0=x at *;have HX:=Z hx;clear hx;obtain⟨hx0,hx1⟩:=hbk;have h1'':(k:Int)<l.length:=by omega
  clear hc xt;go_quiet (fail);go_wp2_with fail;have hd:Rd w1 (.slice (some (J b off)) l.length cap) l:=(U HE).1.rd
  go_region
  all_goals
   generalize hw2:(w1.drewN _).setCell (J B 2) (H ((bG*31+x+7) % 2147483648))=w2;obtain⟨hE2,t0,t1,t2,hrd2⟩:=seed_step (fY (U HE) _) d1 (by omega) (by omega) hw2;have kC:=Z hE2;obtain⟨a2,cap2,e2,_,cJ⟩:=hrd2;obtain⟨b2,off2,e3,hc3⟩:=cJ (by intro e;subst e;simp at h1'';omega);simp only[Value.slice.injEq,true_and] at e2;obtain⟨rfl,rfl⟩:=e2;simp only[Option.some.injEq,Addr.mk.injEq,and_true] at e3;obtain⟨rfl,rfl⟩:=e3;have tck:=hc3 k (by omega);have hx:l.getD k 0=x:=U HX;rw[hx] at tck;clear hE2 cJ hc3 hw2 d0 d1 d2 hck hx hd;go_wp2_with fail;go_quiet (fail);go_wp2_with fail;go_ret;exact⟨_,rfl,by omega,by omega,fY (U kC) _⟩
 ·have h1':(l.length:Int)<at_ + 1:=by omega
  clear hc
  by_cases Y:3000<at_ + 1
  ·go_quiet (fail);go_wp2_with fail;go_ret;exact⟨_,rfl,by omega,by omega,fY (U HE) _⟩
  ·go_quiet (fail);go_wp2_with fail;go_ret;exact⟨_,rfl,by omega,by omega,src_seed (fY (U HE) _) _ (by omega) (by omega)⟩
theorem zO (B:Nat)(v:Value)(l:List Int)(m n:Int)(w:World)(h:Src B w v l m)(hm:m<=1000000000)(D:1<=n)(Y:n<=1073741824) :
  Calls Tryz.prog 28 #[I B 0,H n] w fun e w'=>∃y:Int,e=ym (H y)/\0<=y/\y<n/\zP B w v l (m+3) w':=by
 have HS:=Z h;clear h
 by_cases k1:n<=1
 ·go_enter Tryz.func28,Tryz.ntmps28;go_wp2_with fail;go_ret;exact⟨_,rfl,by omega,by omega,eS (eH (U HS) (by omega))⟩
 by_cases k2:n<=256
 ·go_enter Tryz.func28,Tryz.ntmps28;go_wp2_with fail;refine(byte_any B v l m _ (U HS) (by omega)).mono ?_;rintro e w1 ⟨y,rfl,jj,kR,hE⟩;have HE:=Z hE;clear hE;have xr:(n==0)=false:=by simp;omega
  go_wp2_with fail;go_ret;exact⟨_,rfl,by first|omega|exact Int.emod_nonneg _ (by omega),by first|omega|exact Int.emod_lt_of_pos _ (by omega),eH (U HE).1 (by omega),(U HE).2⟩
 go_enter Tryz.func28,Tryz.ntmps28;go_wp2_with fail;refine(byte_any B v l m _ (U HS) (by omega)).mono ?_;rintro e w1 ⟨y1,rfl,jj,kR,hE⟩;have bI:=Z hE;clear hE;go_wp2_with fail;refine(byte_any B v l _ _ (U bI).1 (by omega)).mono ?_;rintro e w2 ⟨y2,rfl,uI,uG,hE⟩;have kC:=Z hE;clear hE;go_wp2_with fail;refine(byte_any B v l _ _ (U kC).1 (by omega)).mono ?_;rintro e w3 ⟨y3,rfl,hu0,hu1,hE⟩;have HE3:=Z hE;clear hE;have xr:(n==0)=false:=by simp;omega
 go_wp2_with fail;go_ret;exact⟨_,rfl,by first|omega|exact Int.emod_nonneg _ (by omega),by first|omega|exact Int.emod_lt_of_pos _ (by omega),eH (U HE3).1 (by omega),zw (zw (U bI).2 (U kC).2) (U HE3).2⟩
structure Tot where
 gr:Int
 ac:Int
 rf:Int
 tr:Int
 vo:Int
 no:Int
 li:Int
 le:Int
def Tot.vs (t:Tot):List Value:=[H t.gr,H t.ac,H t.rf,H t.tr,H t.vo,H t.no,H t.li,H t.le]
theorem range_set {W:World}{b j:Nat}{F:List Value}{u:Value}(h:W.rangeAt b 0 F)(hj:j<F.length):(W.setCell (J b j) u).rangeAt b 0 (F.set j u):=by
 intro i v hi;rw[Nat.zero_add]
 by_cases aB:j=i
 ·subst aB;rw[List.getElem?_set_self hj] at hi;cases hi;have:=h j _ (yI hj);rw[Nat.zero_add] at this;exact yN _ _ _ this
 ·rw[yX aB] at hi;have:=h i v hi;rw[Nat.zero_add] at this;exact(yM _ _ _ _ (ei aB)).trans this
theorem ev_cells {W:World}{b o:Nat}{e:Ev}(h:W.rangeAt b o e.vs):W.cell? (J b o)=some (H e.kind)/\W.cell? (J b (o+1))=some (H e.cmd.k)/\W.cell? (J b (o+2))=some (H e.cmd.s)/\W.cell? (J b (o+3))=some (H e.cmd.t)/\W.cell? (J b (o+4))=some (H e.cmd.l)/\W.cell? (J b (o+5))=some (H e.cmd.q)/\W.cell? (J b (o+6))=some (H e.cmd.i)/\W.cell? (J b (o+7))=some (yj e.cmd.p)/\W.cell? (J b (o+8))=some (yk e.cmd.g)/\W.cell? (J b (o+9))=some (H e.id)/\W.cell? (J b (o+10))=some (H e.other)/\W.cell? (J b (o+11))=some (H e.qty)/\W.cell? (J b (o+12))=some (H e.price)/\W.cell? (J b (o+13))=some (H e.reason):=⟨h 0 _ rfl,h 1 _ rfl,h 2 _ rfl,h 3 _ rfl,h 4 _ rfl,h 5 _ rfl,h 6 _ rfl,h 7 _ rfl,h 8 _ rfl,h 9 _ rfl,h 10 _ rfl,h 11 _ rfl,h 12 _ rfl,h 13 _ rfl⟩
section
variable {C:Nat->Value->Prop} {mb B:Nat} {gv vo:Value} {gs:List Value} {base W W':World} {x:List Bool} {f:Nat->Value}
end
section
variable {C:Nat->Value->Prop} {mb:Nat} {tv:List Value} {base W W':World} {x:List Bool} {f:Nat->Value}
end

end Go.Proofs.YthhkapcbocgcoaaGreatDoor
