/-.-/
import Derived.Test.YtbghmldggahjiaaGreatDoorUj37
set_option linter.unusedVariables false
set_option maxHeartbeats 6400000
set_option maxRecDepth 100000
namespace Go.Proofs.YtbghmldggahjiaaGreatDoor
open Go.RowKit


end Go.Proofs.YtbghmldggahjiaaGreatDoor
namespace Go.Proofs.YtbghmldggahjiaaGreatDoor
open Go Ieee
theorem d_bin:double.binade=4503599627370496:=by decide
theorem d_inf:double.infRung=9218868437227405312:=by decide
theorem d_sw:double.signWeight=9223372036854775808:=by decide
theorem d_lp:double.leastPlace = -1074:=by decide
theorem sub_self (x:Nat)(h:x % 9223372036854775808<9218868437227405312):double.sub x x=some 0:=by
 have hr:∃s m i,double.read x = .number s m i:=by
  unfold Format.read;simp only[d_bin,d_inf,d_sw,d_lp];split
  ·exact⟨_,_,_,rfl⟩
  ·exact⟨_,_,_,rfl⟩
 obtain⟨s,m,i,hx⟩:=hr;unfold Format.sub;rw[hx]
 have e:signed s m (i-min i i).toNat+signed (!s) m (i-min i i).toNat=0:=by
  cases s <;> simp[signed] <;> omega
 simp only[Datum.opposite,Datum.sum,e];cases s <;> simp[Format.write,Format.nearest,Format.word]
end Go.Proofs.YtbghmldggahjiaaGreatDoor
namespace Go.Proofs.YtbghmldggahjiaaGreatDoor
open Go.RowKit Ieee
set_option linter.unusedVariables false
end Go.Proofs.YtbghmldggahjiaaGreatDoor
namespace Go.Proofs.YtbghmldggahjiaaGreatDoor
open Go.RowKit



theorem Tryz.infoCmdD:(Tryz.prog.info? 57).map (fun i=>(i.zero,i.size,i.bytes))=some (some (.agg (yx 0 0 0 0 0 0 0 ⟨#[]⟩).toArray),8,72):=by kernel_rfl
theorem cells_srcD (w:World)(cs:List Value)(t:TypeId)(j:Nat)(u:Value)(h:cs[j]? = some u):(w.alloc (Obj.cells cs.toArray t)).cell? (((yq w 0):Addr).add j)=some u:=by
 rw[Addr.add_mid,cell_of_row _ w.heap.size (0+j) cs.toArray t (0,0) (heap_alloc_new w _)];simpa using h
theorem fI {W:World}{B e z n:Nat}{v:Value}{xs:List Value}(h:W.ownsRow B e z v n xs):∃a cap,v = .slice a n cap:=by
 rcases h.2 with⟨D,E⟩|⟨g,cap,xr,D,_⟩
 ·exact⟨none,0,by rw[D,E]⟩
 ·exact⟨_,_,D⟩

theorem cellsJ {W:World}{s:Nat}(hs:W.heap.size=s)(cs:List Value)(t:TypeId)(j:Nat)(u:Value)(h:cs[j]? = some u):(W.alloc (Obj.cells cs.toArray t)).cell? (((U s 0):Addr).add j)=some u:=by
 subst hs;exact cells_srcD W cs t j u h
theorem fP {w w':World}{base e z n:Nat}{v:Value}{xs:List Value}(h:w.ownsRow base e z v n xs)(A:yn w w'):w'.ownsRow base e z v n xs:=
 h.kept (gf (G:=none) A ya) (by cases hv:v.ownBlock with|none=>exact .inl rfl|some k=>exact .inr (by simp))
def jgV (cs:List Cm)(vq vt:Value):List Value:=[H (runS cs).n,vq,H (runS cs).t.gr,H (runS cs).t.ac,H (runS cs).t.rf,H (runS cs).t.tr,H (runS cs).t.vo,H (runS cs).t.no,H (runS cs).t.li,H (runS cs).t.le,vt,H (pkO cs),H (pkL cs)]
structure JG (lV B:Nat) (W:World) (cs:List Cm) (vq vt:Value):Prop where
 box:Bx W lV (jgV cs vq vt)
 typ:∃cur,W.heap[lV]? = some (.cells cur 45 (0,0))
 row:ORow W B vq (runS cs).l
 told:W.ownsRow B 57 8 vt cs.length (cs.flatMap Cm.vs)
 hJ:B<=lV
theorem JG.lt {lV B:Nat}{W:World}{cs:List Cm}{vq vt:Value}(h:JG lV B W cs vq vt):lV<W.heap.size:=by
 obtain⟨xr,hc⟩:=h.typ;exact(yY.1 hc).1
theorem jg_below {lV B:Nat}{W W':World}{cs:List Cm}{vq vt:Value}(h:JG lV B W cs vq vt)(A:yn W W'):JG lV B W' cs vq vt:=by
 have hl:=h.lt;obtain⟨xr,hc⟩:=h.typ;exact⟨zf h.box A hl,⟨xr,(A.block lV hl).trans hc⟩,zK h.row A,fP h.told A,h.hJ⟩
theorem iD {T:TypeId}{b:Nat}{W W':World}(h:∃xr,W.heap[b]? = some (.cells xr T (0,0)))(A:yn W W'):∃xr,W'.heap[b]? = some (.cells xr T (0,0)):=by
 obtain⟨xr,hc⟩:=h;exact⟨xr,(A.block b (yY.1 hc).1).trans hc⟩
theorem typ_lt {T:TypeId}{b:Nat}{W:World}(h:∃xr,W.heap[b]? = some (.cells xr T (0,0))):b<W.heap.size:=by
 obtain⟨xr,hc⟩:=h;exact(yY.1 hc).1
def CloseG:Prop:=∀(lV B:Nat) (cs:List Cm) (vq vt:Value) (e0:Ev) (r:List Ev) (va vb:Value) (C:Nat) (w:World),JG lV B w cs vq vt->cs.length<200->(e0::r).length<=8192->ERow w C va (e0::r)->1<=e0.kind/\e0.kind<=9->e0::r=stE (runS cs).n (runS cs).l (zV e0)->ORow w B vb (stL (runS cs).n (runS cs).l (zV e0)) ->
  Calls Tryz.prog 48 #[xj lV 0,va,.agg #[H (stN (runS cs).n (runS cs).l (zV e0)),vb]] w fun e w'=>e=ym (.tuple #[])/\∃vU,JG lV B w' (cs ++ [zV e0]) vb vU/\Kp lV vt w w'
theorem l04Next_none (v:Value)(l:List Od)(t:Od)(w:World)(hr:RdR Od.vs 6 w v l)(hri:ew l)(hn:l.length<=1000)(vh:t.side=0\/t.side=1\/t.side=2)(h0:t.left=0) :
  Calls Tryz.prog 125 #[v,.agg (yw t.id t.side t.ticks t.left t.life t.tag).toArray] w fun e w'=>∃k:Int,e = .returned (H k)/\NexS l t k/\yn w w':=by
 have HR:=Q hr;obtain⟨a,cap,rfl,xD,hc⟩:=hr;have HRI:=Q hri;have xI:0<=t.side:=by omega
 have uc:t.side<=2:=by omega
 have ud:Hid (yn w (w.alloc (J (yw t.id t.side t.ticks t.left t.life t.tag).toArray 98))):=lT _ _;have HX:Hid (World.rangeAt (w.alloc (J (yw t.id t.side t.ticks t.left t.life t.tag).toArray 98)) w.heap.size 0 t.vs/\w.heap.size<(w.alloc (J (yw t.id t.side t.ticks t.left t.life t.tag).toArray 98)).heap.size):=⟨zo w t.vs 98,by simp⟩;have HN:=Q (nex_stop (l:=l) h0);have b0:(t.left==0)=true:=by simpa using h0
 clear hc hri vh h0;go_enter Tryz.func125,Tryz.ntmps125;go_wp2_with fail;generalize (w.alloc (J (yw t.id t.side t.ticks t.left t.life t.tag).toArray 98))=W1 at ud HX |-;refine(l03Front_any _ l _ W1 (zq (Z HR) (Z ud) ya) (Z HRI) hn).mono ?_;rintro e w2 ⟨k,rfl,hf,uZ⟩;have xq:=Q ((Z ud).trans ((fZ uZ (fun g M=>by cases M) ya).mono (Z ud).size));have xF:=Q (zA (Z HX).1 uZ (Z HX).2 (by simp));obtain⟨t0,t1,t2,t3,t4,t5⟩:=zM (Z xF);clear hf uZ xI uc;go_wp2_with fail;go_quiet (fail);go_wp2_with fail;go_ret;exact⟨_,rfl,Z HN,zp (Z xq) _⟩
def msV (vl vd va:Value)(g:Gr)(t:Od)(kd n0:Int):List Value:=[H g.nx,vl,H t.id,H t.side,H t.ticks,H t.left,H t.life,yk t.tag,H kd,.bool (g.bg != 0),vd,H n0,va]
def DyT (W:World)(b:Nat):Prop:=∃xr,W.heap[b]? = some (.cells xr 98 (0,0))
structure MS (O B:Nat) (W:World) (vl vd va:Value) (g:Gr) (t:Od) (kd n0:Int) (dy l0:List Od):Prop where
 box:Bx W O (msV vl vd va g t kd n0)
 row:ORow W B vl g.l
 days:RdR Od.vs 6 W vd dy
 ahd:RdR Od.vs 6 W va l0
 sla:SlOk va
 typ:∃cur,W.heap[O]? = some (.cells cur 143 (0,0))
 hO:B<=O
 eqd:g.bg=0->n0=g.nx/\l0=g.l/\vd = .slice none 0 0
 ndc:dy ≠ []->∀b off n c,vd = .slice (some ⟨b,off,none⟩) n c->b≠O/\n<=c
 na:l0 ≠ []->∀b off n c,va = .slice (some ⟨b,off,none⟩) n c->b<B
 dyt:dy ≠ []->∀b off n c,vd = .slice (some ⟨b,off,none⟩) n c->DyT W b
section
variable {O B:Nat} {w W W':World} {vl vd va:Value} {g g':Gr} {t t':Od} {kd kd' n0:Int} {dy l0:List Od}
theorem MS.lt (h:MS O B W vl vd va g t kd n0 dy l0):O<W.heap.size:=by
 obtain⟨xr,hc⟩:=h.typ;exact(yY.1 hc).1
theorem MS.eqn (h:MS O B W vl vd va g t kd n0 dy l0)(A:g.bg=0):n0=g.nx/\l0=g.l:=⟨(h.eqd A).1,(h.eqd A).2.1⟩
theorem MS.nd (h:MS O B W vl vd va g t kd n0 dy l0)(hd:dy ≠ [])(b off n c:Nat)(e:vd = .slice (some (U b off)) n c):b≠O:=(h.ndc hd b off n c e).1
theorem MS.base (h:MS O B W vl vd va g t kd n0 dy l0):B<=W.heap.size:=yN h.hO (Nat.le_of_lt h.lt)
theorem MS.nl (h:MS O B W vl vd va g t kd n0 dy l0):some O≠vl.ownBlock:=zy h.row h.typ (by decide)
theorem dyT_blk {b:Nat}(h:DyT W b)(A:W'.heap[b]? = W.heap[b]?):DyT W' b:=by obtain⟨xr,hc⟩:=h;exact⟨xr,A.trans hc⟩
theorem dyT_lt {b:Nat}(h:DyT W b):b<W.heap.size:=by obtain⟨xr,hc⟩:=h;exact(yY.1 hc).1
theorem zv (h:MS O B W vl vd va g t kd n0 dy l0)(A:yn W W'):MS O B W' vl vd va g t kd n0 dy l0:=
 ⟨zf h.box A h.lt,zK h.row A,zq h.days A ya,zq h.ahd A ya,h.sla,by obtain⟨xr,hc⟩:=h.typ;exact⟨xr,(A.block O h.lt).trans hc⟩,h.hO,h.eqd,h.ndc,h.na,fun hd b off n c e=>dyT_blk (h.dyt hd b off n c e) (A.block b (dyT_lt (h.dyt hd b off n c e)))⟩
theorem gM {l:List Od}{v:Value}{b:Nat}{us:List Value}{o:Nat}(h:RdR Od.vs 6 W v l)(hn:l ≠ []->∀b' off n c,v = .slice (some (U b' off)) n c->b'≠b):RdR Od.vs 6 (W.setCells b o us) v l:=by
 obtain⟨a,cap,rfl,hl,hc⟩:=h;refine⟨a,cap,rfl,hl,fun xy=>?_⟩;obtain⟨b',off,rfl,A,xm⟩:=hc xy;have hbn:=hn xy b' off _ _ rfl;have oO:=ep b b' hbn us o W;refine⟨b',off,rfl,?_,fun j c hj i u hi=>?_⟩
 ·by_cases xH:b'<(W.setCells b o us).heap.size
  ·exact xH
  ·exfalso;rw[Array.getElem?_eq_none (by omega),Array.getElem?_eq_getElem A] at oO;cases oO
 ·rw[yQ (a:=(U b' (off+j*6+i))) oO];exact xm j c hj i u hi
theorem eS (h:MS O B W vl vd va g t kd n0 dy l0)(o:Nat)(us:List Value)(hl:o+us.length<=13)(he:msV vl vd va g' t' kd' n0=(msV vl vd va g t kd n0).take o++us++(msV vl vd va g t kd n0).drop (o+us.length))(om:g'.l=g.l)(hq:g'.bg=0->n0=g'.nx/\l0=g'.l/\vd = .slice none 0 0):MS O B (W.setCells O o us) vl vd va g' t' kd' n0 dy l0:=
 ⟨by rw[he];exact bx_setAt us o W _ h.box hl,by rw[om];exact eP h.nl us o W h.row,gM h.days h.nd,gM h.ahd (fun xy b' off n c e=>by have:=h.na xy b' off n c e;have:=h.hO;omega),h.sla,gZ us o W h.typ,h.hO,hq,h.ndc,h.na,fun hd b off n c e=>dyT_blk (h.dyt hd b off n c e) (ep O b (h.nd hd b off n c e) us o W)⟩
structure KO (O:Nat) (ob:Option Nat) (w w':World):Prop where
 os:w'.os=w.os
 tape:w'.tape=w.tape
 output:w'.output=w.output
 size:w.heap.size<=w'.heap.size
 block:∀k,k<w.heap.size->k≠O->some k≠ob->w'.heap[k]? = w.heap[k]?
theorem ko_of {ob:Option Nat}(h:yn w W):KO O ob w W:=⟨h.os,h.tape,h.output,h.size,fun k X _ _=>h.block k X⟩
theorem ic {ob:Option Nat}(h:KO O ob w W)(A:yn W W'):KO O ob w W':=
 ⟨A.os.trans h.os,A.tape.trans h.tape,A.output.trans h.output,yN h.size A.size,fun k X D E=>(A.block k (yJ X h.size)).trans (h.block k X D E)⟩
theorem et {ob:Option Nat}:∀ {W:World} (h:KO O ob w W) (o:Nat) (us:List Value),KO O ob w (W.setCells O o us)
 | _,h,_,[]=>h
 | W,h,o,u::us=>by
  rw[World.setCells];exact et (W:=W.setCell (U O o) u) ⟨h.os,h.tape,h.output,by have:=h.size;simpa[World.setCell] using this,fun k X D E=>(yS _ _ _ _ D).trans (h.block k X D E)⟩ (o+1) us
theorem ko_row {ob:Option Nat}{b:Nat}(h:KO O ob w W)(M:W.grownBy W' (some b))(A:ob=some b):KO O ob w W':=
 ⟨M.os.trans h.os,M.tape.trans h.tape,M.output.trans h.output,yN h.size M.size,fun k X D E=>(M.block k (yJ X h.size) (by rw[<- A];exact E)).trans (h.block k X D E)⟩
theorem ko_far {ob:Option Nat}{v:Value}(h:KO O ob w W)(M:W.grownBy W' v.ownBlock)(hv:∀k,v.ownBlock=some k->w.heap.size<=k):KO O ob w W':=
 ⟨M.os.trans h.os,M.tape.trans h.tape,M.output.trans h.output,yN h.size M.size,fun k X D E=>(M.block k (yJ X h.size) (fun e=>by have:=hv k e.symm;omega)).trans (h.block k X D E)⟩
end
def TakK (O B:Nat)(ob:Option Nat)(va:Value)(n0:Int)(l0:List Od)(g:Gr)(t:Od)(kd:Int)(dy:List Od)(e:Ev)(w:World)(x:Ending)(w':World):Prop:=x = .returned (.tuple #[])/\KO O ob w w'/\∃qd vw,MS O B w' qd vw va (dK g e) (tkM g t e) (kdM kd e) n0 (dyM g dy e) l0
theorem take_2 {O B:Nat}{vl vd va:Value}{g:Gr}{t:Od}{kd n0:Int}{dy l0:List Od}(ck cs ct cl cq ci:Int)(cp:Nat)(cg:ByteArray)(id xh qty xi xg:Int)(w:World)(h:MS O B w vl vd va g t kd n0 dy l0)(hi:GI g)(hm:MR g t kd dy)(he:okE ⟨2,⟨ck,cs,ct,cl,cq,ci,cp,cg⟩,id,xh,qty,xi,xg⟩=true)(hr:zx g ⟨2,⟨ck,cs,ct,cl,cq,ci,cp,cg⟩,id,xh,qty,xi,xg⟩=0):Calls Tryz.prog 85 #[xj O 0,.agg (yv 2 ck cs ct cl cq ci cp cg id xh qty xi xg).toArray] w fun x w'=>TakK O B vl.ownBlock va n0 l0 g t kd dy ⟨2,⟨ck,cs,ct,cl,cq,ci,cp,cg⟩,id,xh,qty,xi,xg⟩ w x w':=by
 generalize hob:vl.ownBlock=ob;have HOB:=Q hob;clear hob;have hsf:=sfl;have hO:=h.lt;have jA:=h.base;have jF:Hid (∀w' qd vw,KO O ob w w'->MS O B w' qd vw va (dK g ⟨2,⟨ck,cs,ct,cl,cq,ci,cp,cg⟩,id,xh,qty,xi,xg⟩) (tkM g t ⟨2,⟨ck,cs,ct,cl,cq,ci,cp,cg⟩,id,xh,qty,xi,xg⟩) (kdM kd ⟨2,⟨ck,cs,ct,cl,cq,ci,cp,cg⟩,id,xh,qty,xi,xg⟩) n0 (dyM g dy ⟨2,⟨ck,cs,ct,cl,cq,ci,cp,cg⟩,id,xh,qty,xi,xg⟩) l0->TakK O B ob va n0 l0 g t kd dy ⟨2,⟨ck,cs,ct,cl,cq,ci,cp,cg⟩,id,xh,qty,xi,xg⟩ w (.returned (.tuple #[])) w'):=fun w' qd vw D E=>⟨rfl,D,qd,vw,E⟩;have h0:=rule2 (e:=⟨2,⟨ck,cs,ct,cl,cq,ci,cp,cg⟩,id,xh,qty,xi,xg⟩) rfl hr;have ua:Hid (dK g ⟨2,⟨ck,cs,ct,cl,cq,ci,cp,cg⟩,id,xh,qty,xi,xg⟩ = { g with bg:=2 }):=by show _ = _;rw[step2 rfl];simp only[begG,if_pos h0]
 have ue:Hid (tkM g t ⟨2,⟨ck,cs,ct,cl,cq,ci,cp,cg⟩,id,xh,qty,xi,xg⟩=t/\kdM kd ⟨2,⟨ck,cs,ct,cl,cq,ci,cp,cg⟩,id,xh,qty,xi,xg⟩=kd/\dyM g dy ⟨2,⟨ck,cs,ct,cl,cq,ci,cp,cg⟩,id,xh,qty,xi,xg⟩=dy):=⟨rfl,rfl,rfl⟩;generalize TakK O B ob va n0 l0 g t kd dy ⟨2,⟨ck,cs,ct,cl,cq,ci,cp,cg⟩,id,xh,qty,xi,xg⟩ w=C at jF |-;obtain⟨xA,HX⟩:=lY w (yv 2 ck cs ct cl cq ci cp cg id xh qty xi xg) 89;have HM:=Q (zv h xA);have HB:Hid (KO O ob w (w.alloc (J (yv 2 ck cs ct cl cq ci cp cg id xh qty xi xg).toArray 89))):=ko_of xA;clear h xA hi hm he hr;go_enter Tryz.func85,Tryz.ntmps85;refine lX fun ho HK=>?_;go_wp2_with fail;refine Z HK _ _ ?_;clear HK;generalize (w.alloc (J (yv 2 ck cs ct cl cq ci cp cg id xh qty xi xg).toArray 89))=W1 at HX HM HB |-;have c9:=Y (Z HM).box 9 rfl;have q9:=zc (Z HM).box 9 (by show 9<13;decide);have xq:Hid (KO O ob w (World.setCells W1 O 9 [.bool true])):=et (Z HB) 9 _;have xT:Hid (MS O B (World.setCells W1 O 9 [.bool true]) vl vd va { g with bg:=2 } t kd n0 dy l0):=eS (Z HM) 9 [.bool true] (by simp) rfl rfl (fun h=>absurd (show(2:Int)=0 from h) (by decide));have e0:(World.setCells W1 O 9 [.bool true]).cell? (U w.heap.size 0)=some (H 2):=Y (zQ (Z HX) (ep O w.heap.size (by omega) _ 9 W1)) 0 rfl;simp only[World.setCells] at e0;go_wp2_with fail;go_end0;refine Z jF _ vl vd (Z xq) ?_;rw[Z ua,(Z ue).1,(Z ue).2.1,(Z ue).2.2];exact Z xT
theorem take_5 {O B:Nat}{vl vd va:Value}{g:Gr}{t:Od}{kd n0:Int}{dy l0:List Od}(ck cs ct cl cq ci:Int)(cp:Nat)(cg:ByteArray)(id xh qty xi xg:Int)(w:World)(h:MS O B w vl vd va g t kd n0 dy l0)(hi:GI g)(hm:MR g t kd dy)(he:okE ⟨5,⟨ck,cs,ct,cl,cq,ci,cp,cg⟩,id,xh,qty,xi,xg⟩=true)(hr:zx g ⟨5,⟨ck,cs,ct,cl,cq,ci,cp,cg⟩,id,xh,qty,xi,xg⟩=0):Calls Tryz.prog 85 #[xj O 0,.agg (yv 5 ck cs ct cl cq ci cp cg id xh qty xi xg).toArray] w fun x w'=>TakK O B vl.ownBlock va n0 l0 g t kd dy ⟨5,⟨ck,cs,ct,cl,cq,ci,cp,cg⟩,id,xh,qty,xi,xg⟩ w x w':=by
 generalize hob:vl.ownBlock=ob;have HOB:=Q hob;clear hob;have hsf:=sfl;have hO:=h.lt;have jA:=h.base;have jF:Hid (∀w' qd vw,KO O ob w w'->MS O B w' qd vw va (dK g ⟨5,⟨ck,cs,ct,cl,cq,ci,cp,cg⟩,id,xh,qty,xi,xg⟩) (tkM g t ⟨5,⟨ck,cs,ct,cl,cq,ci,cp,cg⟩,id,xh,qty,xi,xg⟩) (kdM kd ⟨5,⟨ck,cs,ct,cl,cq,ci,cp,cg⟩,id,xh,qty,xi,xg⟩) n0 (dyM g dy ⟨5,⟨ck,cs,ct,cl,cq,ci,cp,cg⟩,id,xh,qty,xi,xg⟩) l0->TakK O B ob va n0 l0 g t kd dy ⟨5,⟨ck,cs,ct,cl,cq,ci,cp,cg⟩,id,xh,qty,xi,xg⟩ w (.returned (.tuple #[])) w'):=fun w' qd vw D E=>⟨rfl,D,qd,vw,E⟩;have h0:=(gm (e:=⟨5,⟨ck,cs,ct,cl,cq,ci,cp,cg⟩,id,xh,qty,xi,xg⟩) (.inr rfl) hr).1;have ua:Hid (dK g ⟨5,⟨ck,cs,ct,cl,cq,ci,cp,cg⟩,id,xh,qty,xi,xg⟩ = { g with tk:={ g.tk with left:=0 } }):=by show _ = _;rw[step5 rfl];simp only[begG];rw[if_neg (by omega)]
 have ue:Hid (tkM g t ⟨5,⟨ck,cs,ct,cl,cq,ci,cp,cg⟩,id,xh,qty,xi,xg⟩=zOd/\kdM kd ⟨5,⟨ck,cs,ct,cl,cq,ci,cp,cg⟩,id,xh,qty,xi,xg⟩=kd/\dyM g dy ⟨5,⟨ck,cs,ct,cl,cq,ci,cp,cg⟩,id,xh,qty,xi,xg⟩=dy):=⟨rfl,rfl,rfl⟩;have hbn:(g.bg != 0)=true:=by simp[h0]
 have oX:Hid (g.bg≠0):=by show _ ≠ _;omega
 clear h0;generalize TakK O B ob va n0 l0 g t kd dy ⟨5,⟨ck,cs,ct,cl,cq,ci,cp,cg⟩,id,xh,qty,xi,xg⟩ w=C at jF |-;obtain⟨xA,HX⟩:=lY w (yv 5 ck cs ct cl cq ci cp cg id xh qty xi xg) 89;have HM:=Q (zv h xA);have HB:Hid (KO O ob w (w.alloc (J (yv 5 ck cs ct cl cq ci cp cg id xh qty xi xg).toArray 89))):=ko_of xA;clear h xA hi hm he hr;go_enter Tryz.func85,Tryz.ntmps85;refine lX fun ho HK=>?_;go_wp2_with fail;refine Z HK _ _ ?_;clear HK;generalize (w.alloc (J (yv 5 ck cs ct cl cq ci cp cg id xh qty xi xg).toArray 89))=W1 at HX HM HB |-;have c9:=Y (Z HM).box 9 rfl;have q9:=zc (Z HM).box 9 (by show 9<13;decide);have xq:Hid (KO O ob w (World.setCells W1 O 9 [.bool true])):=et (Z HB) 9 _;have xT:Hid (MS O B (World.setCells W1 O 9 [.bool true]) vl vd va g t kd n0 dy l0):=eS (Z HM) 9 [.bool true] (by simp) (by simp[msV,hbn]) rfl (fun h=>absurd h (Z oX));have e0:(World.setCells W1 O 9 [.bool true]).cell? (U w.heap.size 0)=some (H 5):=Y (zQ (Z HX) (ep O w.heap.size (by omega) _ 9 W1)) 0 rfl;clear hbn HX HM HB;refine lX fun ho HK=>?_;go_wp2_with fail;refine Z HK _ _ ?_;clear HK;change Code.wp _ _ _ _ (World.setCells W1 O 9 [.bool true]);generalize World.setCells W1 O 9 [.bool true]=hk at xq xT e0 |-;have c2:=Y (Z xT).box 2 rfl;have q2:=zc (Z xT).box 2 (by show 2<13;decide);have c3:=Y (Z xT).box 3 rfl;have q3:=zc (Z xT).box 3 (by show 3<13;decide);have c4:=Y (Z xT).box 4 rfl;have q4:=zc (Z xT).box 4 (by show 4<13;decide);have c5:=Y (Z xT).box 5 rfl;have q5:=zc (Z xT).box 5 (by show 5<13;decide);have c6:=Y (Z xT).box 6 rfl;have q6:=zc (Z xT).box 6 (by show 6<13;decide);have c7:=Y (Z xT).box 7 rfl;have q7:=zc (Z xT).box 7 (by show 7<13;decide);go_wp2_with fail;go_end0;refine Z jF _ vl vd (et (Z xq) 2 (yw 0 0 0 0 0 ⟨#[]⟩)) ?_;rw[Z ua,(Z ue).1,(Z ue).2.1,(Z ue).2.2];exact eS (Z xT) 2 (yw 0 0 0 0 0 ⟨#[]⟩) (by simp) rfl rfl (fun h=>absurd h (Z oX))
theorem take_1 {O B:Nat}{vl vd va:Value}{g:Gr}{t:Od}{kd n0:Int}{dy l0:List Od}(ck cs ct cl cq ci:Int)(cp:Nat)(cg:ByteArray)(id xh qty xi xg:Int)(w:World)(h:MS O B w vl vd va g t kd n0 dy l0)(hi:GI g)(hm:MR g t kd dy)(he:okE ⟨1,⟨ck,cs,ct,cl,cq,ci,cp,cg⟩,id,xh,qty,xi,xg⟩=true)(hr:zx g ⟨1,⟨ck,cs,ct,cl,cq,ci,cp,cg⟩,id,xh,qty,xi,xg⟩=0):Calls Tryz.prog 85 #[xj O 0,.agg (yv 1 ck cs ct cl cq ci cp cg id xh qty xi xg).toArray] w fun x w'=>TakK O B vl.ownBlock va n0 l0 g t kd dy ⟨1,⟨ck,cs,ct,cl,cq,ci,cp,cg⟩,id,xh,qty,xi,xg⟩ w x w':=by
 generalize hob:vl.ownBlock=ob;have HOB:=Q hob;clear hob;have hsf:=sfl;have hO:=h.lt;have jA:=h.base;have jF:Hid (∀w' qd vw,KO O ob w w'->MS O B w' qd vw va (dK g ⟨1,⟨ck,cs,ct,cl,cq,ci,cp,cg⟩,id,xh,qty,xi,xg⟩) (tkM g t ⟨1,⟨ck,cs,ct,cl,cq,ci,cp,cg⟩,id,xh,qty,xi,xg⟩) (kdM kd ⟨1,⟨ck,cs,ct,cl,cq,ci,cp,cg⟩,id,xh,qty,xi,xg⟩) n0 (dyM g dy ⟨1,⟨ck,cs,ct,cl,cq,ci,cp,cg⟩,id,xh,qty,xi,xg⟩) l0->TakK O B ob va n0 l0 g t kd dy ⟨1,⟨ck,cs,ct,cl,cq,ci,cp,cg⟩,id,xh,qty,xi,xg⟩ w (.returned (.tuple #[])) w'):=fun w' qd vw D E=>⟨rfl,D,qd,vw,E⟩;obtain⟨h0,-,uf⟩:=rule1 (e:=⟨1,⟨ck,cs,ct,cl,cq,ci,cp,cg⟩,id,xh,qty,xi,xg⟩) rfl hr;have qw:=hi.start h0;have hwr:IntKind.i64.wrap (g.nx+1)=g.nx+1:=by rw[IntKind.wrap_i64];omega
 have ua:Hid (dK g ⟨1,⟨ck,cs,ct,cl,cq,ci,cp,cg⟩,id,xh,qty,xi,xg⟩=⟨g.nx+1,g.l,1,⟨ck,cs,ct,cl,cq,ci,cp,cg⟩,ordO ⟨ck,cs,ct,cl,cq,ci,cp,cg⟩ id⟩):=by show _ = _;rw[step1 rfl];simp only[begG,if_pos h0]
 have ue:Hid (tkM g t ⟨1,⟨ck,cs,ct,cl,cq,ci,cp,cg⟩,id,xh,qty,xi,xg⟩=⟨g.nx,cs,tkS cp,cq,cl,cg⟩/\kdM kd ⟨1,⟨ck,cs,ct,cl,cq,ci,cp,cg⟩,id,xh,qty,xi,xg⟩=ct/\dyM g dy ⟨1,⟨ck,cs,ct,cl,cq,ci,cp,cg⟩,id,xh,qty,xi,xg⟩=dy):=⟨rfl,rfl,rfl⟩;have HN0:Hid (n0=g.nx):=(h.eqn h0).1;obtain⟨aa,ac,kz,-,-⟩:=h.ahd;have cT:=Q (fun W=>l04Taker_any n0 aa l0.length ac ⟨ck,cs,ct,cl,cq,ci,cp,cg⟩ W);rw[<- kz] at cT;unfold cmV at cT;simp only at cT;rw[Z HN0] at cT;generalize tkS cp=tp at cT ue;clear h0 uf qw kz;generalize TakK O B ob va n0 l0 g t kd dy ⟨1,⟨ck,cs,ct,cl,cq,ci,cp,cg⟩,id,xh,qty,xi,xg⟩ w=C at jF |-;obtain⟨xA,HX⟩:=lY w (yv 1 ck cs ct cl cq ci cp cg id xh qty xi xg) 89;have HM:=Q (zv h xA);have HB:Hid (KO O ob w (w.alloc (J (yv 1 ck cs ct cl cq ci cp cg id xh qty xi xg).toArray 89))):=ko_of xA;clear h xA hi hm he hr;go_enter Tryz.func85,Tryz.ntmps85;refine lX fun ho HK=>?_;go_wp2_with fail;refine Z HK _ _ ?_;clear HK;generalize (w.alloc (J (yv 1 ck cs ct cl cq ci cp cg id xh qty xi xg).toArray 89))=W1 at HX HM HB |-;have c9:=Y (Z HM).box 9 rfl;have q9:=zc (Z HM).box 9 (by show 9<13;decide);have xq:Hid (KO O ob w (World.setCells W1 O 9 [.bool true])):=et (Z HB) 9 _;have xT:Hid (MS O B (World.setCells W1 O 9 [.bool true]) vl vd va { g with bg:=1 } t kd n0 dy l0):=eS (Z HM) 9 [.bool true] (by simp) rfl rfl (fun h=>absurd (show(1:Int)=0 from h) (by decide));have xF:Hid (Bx (World.setCells W1 O 9 [.bool true]) w.heap.size (yv 1 ck cs ct cl cq ci cp cg id xh qty xi xg)):=zQ (Z HX) (ep O w.heap.size (by omega) _ 9 W1);clear HX HM HB;refine lX fun ho HK=>?_;go_wp2_with fail;refine Z HK _ _ ?_;clear HK;change Code.wp _ _ _ _ (World.setCells W1 O 9 [.bool true]);generalize World.setCells W1 O 9 [.bool true]=hk at xq xT xF |-;have hSX:w.heap.size<hk.heap.size:=yK _ _ (Y (Z xF) 0 rfl)
 have HC11:Hid (hk.cell? (U O 11)=some (H g.nx)):=by
  have:=Y (Z xT).box 11 rfl;rw[Z HN0] at this;exact this
 have e0:=Y (Z xF) 0 rfl;clear c9 q9;go_wp2_with fail;refine zL (RWA (fun f=>{ tmps:=#[xj O 0,.agg (yv 1 ck cs ct cl cq ci cp cg id xh qty xi xg).toArray,F,xj w.heap.size 0,F,xj O 0,xj O 0,xj O 9,xj w.heap.size 0,H 1,.bool true,.bool true,f 0,f 1,f 2,f 3,f 4,f 5,f 6,f 7,f 8,f 9,F,F,F,F,F,F,F,F,F,F,F,F,F,F,F,F,F,F,F,F,F,F,F,F,F,F,F,F,F,F,F,F,F,F,F,F,F,F,F,F,F,F,F,F,F,F,F,F,F,F,F,F,F,F,F,F,F,F,F,F,F,F,F,F,F,F,F,F,F,F,F,F,F,F,F,F,F,F,F,F,F,F,F,F,F,F,F,F,F,F,F,F,F,F,F,F,F,F,F,F,F,F,F,F,F,F,F,F,F,F,F,F,F,F,F,F,F,F,F,F,F,F,F,F,F,F,F,F,F,F,F,F,F,F,F,F,F,F,F,F,F,F,F,F,F,F,F,F,F,F,F,F,F,F,F,F,F,F,F,F,F,F,F],defers:=[] }) (CVw [some (xj O 0),some (xj O 0),some (xj O 0),some (xj O 11),some (.agg #[H g.nx,va]),some (xj w.heap.size 1),some (.agg (yx ck cs ct cl cq ci cp cg).toArray),some (.agg (yw g.nx cs tp cq cl cg).toArray),some (xj O 0),some (xj O 2),none] (fun _=>True)) 10 (fun V=>World.setCells V O 2 (yw g.nx cs tp cq cl cg)) hk) (by kernel_rfl) ?_ ?_ ?_
 ·exact⟨fun _=>F,rfl,⟨fun j hj=>by rw[yI] at hj;split at hj <;> simp at hj,fun _=>⟨rfl,rfl,rfl,Nat.le_refl _,fun _ _=>rfl⟩,fun hj=>by rw[yI] at hj;split at hj <;> simp at hj⟩⟩
 ·rintro x hb V ⟨f,rfl,hR⟩ hx xU;have xv:=eJ xU hx (acyc _ (by kernel_rfl));obtain⟨V0,xA,eV⟩:=hR.m (xv 10 (by simp));have kU:=Q (zv (Z xT) xA);have xw:=Q (zf (Z xF) xA hSX);have xK:=Q (ic (Z xq) xA);clear hR xv xU hx xA;subst eV;dsimp only;generalize f 0=v0,f 1=v1,f 2=v2,f 3=v3,f 4=v4,f 5=v5,f 6=v6,f 7=v7,f 8=v8,f 9=v9;have un:Hid (MS O B (World.setCells V0 O 2 (yw g.nx cs tp cq cl cg)) vl vd va { g with bg:=1 } ⟨g.nx,cs,tp,cq,cl,cg⟩ kd n0 dy l0):=eS (Z kU) 2 (yw g.nx cs tp cq cl cg) (by simp) rfl rfl (fun h=>absurd (show(1:Int)=0 from h) (by decide));have uK:Hid (Bx (World.setCells V0 O 2 (yw g.nx cs tp cq cl cg)) w.heap.size (yv 1 ck cs ct cl cq ci cp cg id xh qty xi xg)):=zQ (Z xw) (ep O w.heap.size (by omega) _ 2 V0);have uT:=Q (et (Z xK) 2 (yw g.nx cs tp cq cl cg));generalize World.setCells V0 O 2 (yw g.nx cs tp cq cl cg)=zb at un uK uT |-;have e3:=Y (Z uK) 3 rfl;have c8:=Y (Z un).box 8 rfl;have q8:=zc (Z un).box 8 (by show 8<13;decide);have HM6:Hid (MS O B (zb.setCell (U O 8) (H ct)) vl vd va { g with bg:=1 } ⟨g.nx,cs,tp,cq,cl,cg⟩ ct n0 dy l0):=eS (Z un) 8 [H ct] (by simp) rfl rfl (fun h=>absurd (show(1:Int)=0 from h) (by decide));have kh:Hid (KO O ob w (zb.setCell (U O 8) (H ct))):=et (Z uT) 8 [H ct];have c0:=Y (Z HM6).box 0 rfl;have q0:=zc (Z HM6).box 0 (by show 0<13;decide);go_wp2_with fail;go_end0;refine Z jF _ vl vd (et (Z kh) 0 [H (g.nx+1)]) ?_;rw[Z ua,(Z ue).1,(Z ue).2.1,(Z ue).2.2];exact eS (Z HM6) 0 [H (g.nx+1)] (by simp) rfl rfl (fun h=>absurd (show(1:Int)=0 from h) (by decide))
 ·rintro x hb V i op ⟨f,rfl,hR⟩ xm hx K xJ I;have xu:=Q hR
  have nw:i<10->x[10]? = some false:=fun xH=>by
   rcases fj hx (show 10<11 by omega) with hq|hw
   ·exact hq
   ·exfalso;have h0:=yf xm 10 rfl hw 0 rfl;have D:=yf xm 10 rfl hw 1 rfl;have E:=yf xm 10 rfl hw 2 rfl;have h3:=yf xm 10 rfl hw 3 rfl;have h4:=yf xm 10 rfl hw 4 rfl;have h5:=yf xm 10 rfl hw 5 rfl;have h6:=yf xm 10 rfl hw 6 rfl;have h7:=yf xm 10 rfl hw 7 rfl;have h9:=yf xm 10 rfl hw 9 rfl;have h8:=yf xm 9 rfl h9 8 rfl;rcases(by omega:i=0\/i=1\/i=2\/i=3\/i=4\/i=5\/i=6\/i=7\/i=8\/i=9) with rfl|rfl|rfl|rfl|rfl|rfl|rfl|rfl|rfl|rfl
    ·exact absurd (h0.symm.trans xJ) (by simp)
    ·exact absurd (D.symm.trans xJ) (by simp)
    ·exact absurd (E.symm.trans xJ) (by simp)
    ·exact absurd (h3.symm.trans xJ) (by simp)
    ·exact absurd (h4.symm.trans xJ) (by simp)
    ·exact absurd (h5.symm.trans xJ) (by simp)
    ·exact absurd (h6.symm.trans xJ) (by simp)
    ·exact absurd (h7.symm.trans xJ) (by simp)
    ·exact absurd (h8.symm.trans xJ) (by simp)
    ·exact absurd (h9.symm.trans xJ) (by simp)
  have uR:i<10->yn hk V:=fun h=>hR.b (nw h);have xn:i<10->∀(p:Addr) u,hk.cell? p=some u->V.cell? p=some u:=fun h p u hu=>((uR h).cell (yK hk _ hu)).trans hu
  match i,K with
  | 0,K|1,K =>
   obtain rfl:=yb K;have CL:=xn (by omega);clear I hR uR xn nw CL;rw[if_pos (by rfl)];unfold Oper.wp;go_simp;exact⟨upd f _ (xj O 0),by simp[upd],zW (Z xu) _ _ ⟨yi rfl,trivial⟩ (by decide)⟩
  | 2,K =>
   obtain rfl:=yb K;have g1:=(hR.c 1 (ye I 1 rfl)).1 _ rfl;have CL:=xn (by omega);clear I hR uR xn nw CL;rw[if_pos (by rfl)];unfold Oper.wp;go_simp;exact⟨upd f 2 (xj O 0),by simp[upd,g1],zW (Z xu) 2 _ ⟨yi rfl,trivial⟩ (by decide)⟩
  | 3,K =>
   obtain rfl:=yb K;have g2:=(hR.c 2 (ye I 2 rfl)).1 _ rfl;have CL:=xn (by omega);clear I hR uR xn nw CL;rw[if_pos (by rfl)];unfold Oper.wp;go_simp;exact⟨upd f 3 (xj O 11),by simp[upd,g2],zW (Z xu) 3 _ ⟨yi rfl,trivial⟩ (by decide)⟩
  | 4,K =>
   obtain rfl:=yb K;have g3:=(hR.c 3 (ye I 3 rfl)).1 _ rfl;have CL:=xn (by omega);have z1:=CL (U O 11) _ (Z HC11);have z2:=CL (U O 12) _ (Y (Z xT).box 12 rfl);clear I hR uR xn nw CL;rw[if_pos (by rfl)];unfold Oper.wp;go_simp;exact⟨upd f 4 (.agg #[H g.nx,va]),by simp[upd,g3],zW (Z xu) 4 _ ⟨yi rfl,trivial⟩ (by decide)⟩
  | 5,K =>
   obtain rfl:=yb K;have CL:=xn (by omega);clear I hR uR xn nw CL;rw[if_pos (by rfl)];unfold Oper.wp;go_simp;exact⟨upd f 5 (xj w.heap.size 1),by simp[upd],zW (Z xu) 5 _ ⟨yi rfl,trivial⟩ (by decide)⟩
  | 6,K =>
   obtain rfl:=yb K;have g5:=(hR.c 5 (ye I 5 rfl)).1 _ rfl;have CL:=xn (by omega);have e1:=CL (U w.heap.size 1) _ (Y (Z xF) 1 rfl);have e2:=CL (U w.heap.size 2) _ (Y (Z xF) 2 rfl);have e3:=CL (U w.heap.size 3) _ (Y (Z xF) 3 rfl);have e4:=CL (U w.heap.size 4) _ (Y (Z xF) 4 rfl);have e5:=CL (U w.heap.size 5) _ (Y (Z xF) 5 rfl);have e6:=CL (U w.heap.size 6) _ (Y (Z xF) 6 rfl);have e7:=CL (U w.heap.size 7) _ (Y (Z xF) 7 rfl);have e8:=CL (U w.heap.size 8) _ (Y (Z xF) 8 rfl);clear I hR uR xn nw CL;rw[if_pos (by rfl)];unfold Oper.wp;go_simp;exact⟨upd f 6 (.agg (yx ck cs ct cl cq ci cp cg).toArray),by simp[upd,g5],zW (Z xu) 6 _ ⟨yi rfl,trivial⟩ (by decide)⟩
  | 7,K =>
   obtain rfl:=yb K;have g4:=(hR.c 4 (ye I 4 rfl)).1 _ rfl;have g6:=(hR.c 6 (ye I 6 rfl)).1 _ rfl;have CL:=xn (by omega);have hw:=nw (by omega);clear I hR uR xn nw CL;rw[if_pos (by rfl)];unfold Oper.wp;go_simp;refine(Z cT V).mono ?_;rintro e w4 ⟨rfl,xz⟩;exact⟨upd f 7 (.agg (yw g.nx cs tp cq cl cg).toArray),by simp[upd,g4,g6],zW (im (Z xu) hw xz) 7 _ ⟨yi rfl,trivial⟩ (by decide)⟩
  | 8,K =>
   obtain rfl:=yb K;have g0:=(hR.c 0 (ye I 0 rfl)).1 _ rfl;have CL:=xn (by omega);clear I hR uR xn nw CL;rw[if_pos (by rfl)];unfold Oper.wp;go_simp;exact⟨upd f 8 (xj O 0),by simp[upd,g0],zW (Z xu) 8 _ ⟨yi rfl,trivial⟩ (by decide)⟩
  | 9,K =>
   obtain rfl:=yb K;have g8:=(hR.c 8 (ye I 8 rfl)).1 _ rfl;have CL:=xn (by omega);clear I hR uR xn nw CL;rw[if_pos (by rfl)];unfold Oper.wp;go_simp;exact⟨upd f 9 (xj O 2),by simp[upd,g8],zW (Z xu) 9 _ ⟨yi rfl,trivial⟩ (by decide)⟩
  | 10,K =>
   obtain rfl:=yb K;have g9:=(hR.c 9 (ye I 9 rfl)).1 _ rfl;have g7:=(hR.c 7 (ye I 7 rfl)).1 _ rfl;have qp:=Q (zv (Z xT) (hR.b xJ));have z2:=Y (Z qp).box 2 rfl;have q2:=zc (Z qp).box 2 (by show 2<13;decide);have z3:=Y (Z qp).box 3 rfl;have q3:=zc (Z qp).box 3 (by show 3<13;decide);have z4:=Y (Z qp).box 4 rfl;have q4:=zc (Z qp).box 4 (by show 4<13;decide);have z5:=Y (Z qp).box 5 rfl;have q5:=zc (Z qp).box 5 (by show 5<13;decide);have z6:=Y (Z qp).box 6 rfl;have q6:=zc (Z qp).box 6 (by show 6<13;decide);have z7:=Y (Z qp).box 7 rfl;have q7:=zc (Z qp).box 7 (by show 7<13;decide);clear I hR uR xn nw;rw[if_pos (by rfl)];unfold Oper.wp;go_simp;exact⟨f,by simp[g9,g7],rw_last (T:=fun V=>World.setCells V O 2 (yw g.nx cs tp cq cl cg)) (Z xu) xJ (fun j hj hx=>⟨fun u hu=>(by subst hj;cases hu),trivial⟩)⟩
  | i+11,K=>simp at K
theorem rd_gr {W W':World}{l:List Od}{v:Value}{b:Nat}(h:RdR Od.vs 6 W v l)(M:W.grownBy W' (some b))(hn:l ≠ []->∀b' off n c,v = .slice (some (U b' off)) n c->b'≠b):RdR Od.vs 6 W' v l:=by
 obtain⟨a,cap,rfl,hl,hc⟩:=h;refine⟨a,cap,rfl,hl,fun xy=>?_⟩;obtain⟨b',off,rfl,A,xm⟩:=hc xy;have oO:=M.block b' A (by simpa using hn xy b' off _ _ rfl);refine⟨b',off,rfl,yJ A M.size,fun j c hj i u hi=>?_⟩;rw[yQ (a:=(U b' (off+j*6+i))) oO];exact xm j c hj i u hi
theorem ms_rowset {O B gb:Nat}{W W':World}{vl vd va:Value}{g:Gr}{t:Od}{kd n0:Int}{dy l0 l':List Od}(h:MS O B W vl vd va { g with bg:=7 } t kd n0 dy l0)(hv:vl.ownBlock=some gb)(K:ORow W' B vl l')(M:W.grownBy W' (some gb))(hdy:dy = [])(hB:B<=gb):MS O B W' vl vd va { g with l:=l',bg:=7 } t kd n0 dy l0:=by
 have nO:some O≠some gb:=by rw[<- hv];exact h.nl
 subst hdy;obtain⟨xr,hc⟩:=h.typ;refine⟨zQ h.box (M.block O h.lt nO),K,rd_gr h.days M (fun xy=>absurd rfl xy),rd_gr h.ahd M (fun xy b' off n c e=>by have:=h.na xy b' off n c e;omega),h.sla,⟨xr,(M.block O h.lt nO).trans hc⟩,h.hO,fun h9=>absurd (show(7:Int)=0 from h9) (by decide),fun xy=>absurd rfl xy,h.na,fun xy=>absurd rfl xy⟩
theorem take_7 {O B:Nat}{vl vd va:Value}{g:Gr}{t:Od}{kd n0:Int}{dy l0:List Od}(ck cs ct cl cq ci:Int)(cp:Nat)(cg:ByteArray)(id xh qty xi xg:Int)(w:World)(h:MS O B w vl vd va g t kd n0 dy l0)(hi:GI g)(hm:MR g t kd dy)(he:okE ⟨7,⟨ck,cs,ct,cl,cq,ci,cp,cg⟩,id,xh,qty,xi,xg⟩=true)(hr:zx g ⟨7,⟨ck,cs,ct,cl,cq,ci,cp,cg⟩,id,xh,qty,xi,xg⟩=0):Calls Tryz.prog 85 #[xj O 0,.agg (yv 7 ck cs ct cl cq ci cp cg id xh qty xi xg).toArray] w fun x w'=>TakK O B vl.ownBlock va n0 l0 g t kd dy ⟨7,⟨ck,cs,ct,cl,cq,ci,cp,cg⟩,id,xh,qty,xi,xg⟩ w x w':=by
 generalize hob:vl.ownBlock=ob;have HOB:=Q hob;clear hob;have hsf:=sfl;have hO:=h.lt;have jA:=h.base;have jF:Hid (∀w' qd vw,KO O ob w w'->MS O B w' qd vw va (dK g ⟨7,⟨ck,cs,ct,cl,cq,ci,cp,cg⟩,id,xh,qty,xi,xg⟩) (tkM g t ⟨7,⟨ck,cs,ct,cl,cq,ci,cp,cg⟩,id,xh,qty,xi,xg⟩) (kdM kd ⟨7,⟨ck,cs,ct,cl,cq,ci,cp,cg⟩,id,xh,qty,xi,xg⟩) n0 (dyM g dy ⟨7,⟨ck,cs,ct,cl,cq,ci,cp,cg⟩,id,xh,qty,xi,xg⟩) l0->TakK O B ob va n0 l0 g t kd dy ⟨7,⟨ck,cs,ct,cl,cq,ci,cp,cg⟩,id,xh,qty,xi,xg⟩ w (.returned (.tuple #[])) w'):=fun w' qd vw D E=>⟨rfl,D,qd,vw,E⟩;obtain⟨h0,k,o,uJ,vC,-,-,-⟩:=rule7 (e:=⟨7,⟨ck,cs,ct,cl,cq,ci,cp,cg⟩,id,xh,qty,xi,xg⟩) rfl hr;simp only at uJ;have hdy:dy = []:=by rw[hm.dy,if_neg (by omega)]
 have ua:Hid (dK g ⟨7,⟨ck,cs,ct,cl,cq,ci,cp,cg⟩,id,xh,qty,xi,xg⟩ = { g with l:=g.l.set k { o with left:=qty },bg:=7 }):=by show _ = _;rw[step7 rfl];simp only[begG,if_pos h0,setI_at uJ vC]
 have ue:Hid (tkM g t ⟨7,⟨ck,cs,ct,cl,cq,ci,cp,cg⟩,id,xh,qty,xi,xg⟩=t/\kdM kd ⟨7,⟨ck,cs,ct,cl,cq,ci,cp,cg⟩,id,xh,qty,xi,xg⟩=kd/\dyM g dy ⟨7,⟨ck,cs,ct,cl,cq,ci,cp,cg⟩,id,xh,qty,xi,xg⟩=dy):=⟨rfl,rfl,rfl⟩;have xy:g.l ≠ []:=by intro h;rw[h] at vC;simp at vC
 have pg:=(yG.1 vC).1;obtain⟨gb,cap,rfl,xC,hBg,hgw⟩:=fM h.row xy;have oo:=hi.len;have HDY:=Q hdy;have kb:=Q uJ;have ak:=Q vC;have hkl':(k:Int)<g.l.length:=by omega
 have oB:(0:Int)<=k:=by omega
 clear h0 uJ vC xy hdy;generalize TakK O B ob va n0 l0 g t kd dy ⟨7,⟨ck,cs,ct,cl,cq,ci,cp,cg⟩,id,xh,qty,xi,xg⟩ w=C at jF |-;obtain⟨xA,HX⟩:=lY w (yv 7 ck cs ct cl cq ci cp cg id xh qty xi xg) 89;have HM:=Q (zv h xA);have HB:Hid (KO O ob w (w.alloc (J (yv 7 ck cs ct cl cq ci cp cg id xh qty xi xg).toArray 89))):=ko_of xA;clear h xA hi hm he hr;go_enter Tryz.func85,Tryz.ntmps85;refine lX fun ho HK=>?_;go_wp2_with fail;refine Z HK _ _ ?_;clear HK;generalize (w.alloc (J (yv 7 ck cs ct cl cq ci cp cg id xh qty xi xg).toArray 89))=W1 at HX HM HB |-;have c9:=Y (Z HM).box 9 rfl;have q9:=zc (Z HM).box 9 (by show 9<13;decide);have xq:Hid (KO O ob w (World.setCells W1 O 9 [.bool true])):=et (Z HB) 9 _;have xT:Hid (MS O B (World.setCells W1 O 9 [.bool true]) (.slice (some (U gb 0)) g.l.length cap) vd va { g with bg:=7 } t kd n0 dy l0):=eS (Z HM) 9 [.bool true] (by simp) rfl rfl (fun h=>absurd (show(7:Int)=0 from h) (by decide));have xF:Hid (Bx (World.setCells W1 O 9 [.bool true]) w.heap.size (yv 7 ck cs ct cl cq ci cp cg id xh qty xi xg)):=zQ (Z HX) (ep O w.heap.size (by omega) _ 9 W1);clear HX HM HB;refine lX fun ho HK=>?_;go_wp2_with fail;refine Z HK _ _ ?_;clear HK;change Code.wp _ _ _ _ (World.setCells W1 O 9 [.bool true]);generalize World.setCells W1 O 9 [.bool true]=hk at xq xT xF |-;have hSX:w.heap.size<hk.heap.size:=yK _ _ (Y (Z xF) 0 rfl);have uU:Hid (RdR Od.vs 6 hk (.slice (some (U gb 0)) g.l.length cap) g.l):=zP (Z xT).row (yN oo (by decide));have e0:=Y (Z xF) 0 rfl;clear c9 q9;go_wp2_with fail;have vV:Hid (yn hk hk.drew):=(Below.refl _ _).drew;have hOX:=(Z xT).lt;have c1:=Y (Z xT).box 1 rfl;have e9:=Y (Z xF) 9 rfl;have uG:=Y (Z xF) 11 rfl;have bK:Hid (∀V,yn hk V->Calls Tryz.prog 123 #[.slice (some (U gb 0)) g.l.length cap,H id] V fun e w'=>e = .returned (H k)/\yn hk w'):=fun V hV=>(gU _ g.l id V (zq (Z uU) hV ya)).mono fun e w' ⟨D,E⟩=>⟨by rw[D,Z kb],hV.trans (E.mono hV.size)⟩
 go_region_with (go_at_call 123;refine(Z bK _ (Z vV)).mono ?_;rintro e w4 ⟨rfl,hq⟩;have y1:=(hq.cell (p:=(U O 1)) hOX).trans c1;have y11:=(hq.cell (p:=(U w.heap.size 11)) hSX).trans uG;have bR:=Q (row_here (zv (Z xT) hq).row (yN oo (by decide)) (Z ak));have z3:=(Z bR).1 3 _ rfl;have q3:=(Z bR).2 3 (by omega))
 all_goals
  go_end0;have HL:=oRow_left (zv (Z xT) hq).row rfl (Z ak) qty;refine Z jF _ (.slice (some (U gb 0)) g.l.length cap) vd (ko_row (ic (Z xq) hq) HL.2 (Z HOB).symm) ?_;rw[Z ua,(Z ue).1,(Z ue).2.1,(Z ue).2.2];exact ms_rowset (zv (Z xT) hq) rfl HL.1 HL.2 (Z HDY) hBg
end Go.Proofs.YtbghmldggahjiaaGreatDoor
