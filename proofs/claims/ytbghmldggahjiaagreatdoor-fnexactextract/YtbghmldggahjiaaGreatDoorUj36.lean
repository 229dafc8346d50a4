/-.-/
import Derived.Test.YtbghmldggahjiaaGreatDoorUj35
import Derived.LaidLaws
import Derived.LaidHandle
set_option linter.unusedVariables false
set_option maxHeartbeats 6400000
set_option maxRecDepth 100000
namespace Go.Proofs.YtbghmldggahjiaaGreatDoor
open Go.RowKit
theorem iM (next:Int)(vb:Value)(l:List Od)(c:Cm)(w:World)(hr:RdR Od.vs 6 w vb l)(hs:SlOk vb)(M:GoodL l)(vh:∀x∈l,x.side=1\/x.side=2)(ht:c.g.size<=maxLen) :
  Calls Tryz.prog 167 #[.agg #[H next,vb],cmV c] w fun e w'=>e = .returned (H (refS next l c))/\yn w w':=by
 have HNW:=Q (fun W hW=>l04New_any next vb l c W hW hs M vh ht);have qN:=Q (fun W=>l04Form_any c W);have hlen20:=M.len;generalize hre:refS next l c=res;have vM:=Q hre.symm;generalize hnr:newR next l c=nr at HNW;have pn:=Q hnr;clear M vh ht hre hnr;obtain⟨kk,s,ty,li,qt,ii,pr,tg⟩:=c;unfold cmV at HNW qN |-;simp only at HNW qN |-;have HR:=Q hr;have jS:=Q hs;obtain⟨a,cap,rfl,xD,hc⟩:=hr
 have xp:∀(k:Nat) (c:Od),l[k]? = some c->∃b off,a=some (U b off)/\b<w.heap.size/\w.rangeAt b (off+k*6) c.vs:=by
  intro k c X;obtain⟨b,off,D,E,h3⟩:=hc (by intro h;rw[h] at X;simp at X);exact⟨b,off,D,E,h3 k c X⟩
 have HC:=Q xp;clear xp hc xD hs;have xI:=zh w (J #[H next,.slice a l.length cap] 41);have uc:((w.alloc (J #[H next,.slice a l.length cap] 41)).alloc (J (yx kk s ty li qt ii pr tg).toArray 57)).heap.size=w.heap.size+1+1:=by rw[zh,xI]
 have r1:=zo w [H next,.slice a l.length cap] 41;have r2:=zo (w.alloc (J #[H next,.slice a l.length cap] 41)) (yx kk s ty li qt ii pr tg) 57;rw[xI] at r2;have jp:Below (w.heap.size+1) (w.alloc (J #[H next,.slice a l.length cap] 41)) ((w.alloc (J #[H next,.slice a l.length cap] 41)).alloc (J (yx kk s ty li qt ii pr tg).toArray 57)):=(Below.refl _ _).alloc (by rw[xI];omega) _;have xq:Hid (yn w ((w.alloc (J #[H next,.slice a l.length cap] 41)).alloc (J (yx kk s ty li qt ii pr tg).toArray 57))):=(lT _ _).alloc (by rw[xI];omega) _;have HX:Hid (_/\_):=⟨zd r1 jp (by omega),r2⟩;have ug:Hid (w.heap.size+1<((w.alloc (J #[H next,.slice a l.length cap] 41)).alloc (J (yx kk s ty li qt ii pr tg).toArray 57)).heap.size):=by show _ < _;omega
 clear xI uc r1 r2 jp;go_enter Tryz.func167,Tryz.ntmps167;refine lX fun ho xV=>?_;go_wp2_with fail;refine Z xV _ _ ?_;clear xV;generalize ((w.alloc (J #[H next,.slice a l.length cap] 41)).alloc (J (yx kk s ty li qt ii pr tg).toArray 57))=X2 at xq HX ug |-;have HX:Hid (X2.rangeAt w.heap.size 0 [H next,.slice a l.length cap]/\X2.rangeAt (w.heap.size+1) 0 (yx kk s ty li qt ii pr tg)):=Z HX;have k0:X2.cell? (U w.heap.size 0)=some (H next):=(Z HX).1 0 _ rfl;have k1:X2.cell? (U w.heap.size 1)=some (.slice a l.length cap):=(Z HX).1 1 _ rfl;obtain⟨o0,o1,o2,o3,o4,o5,o6,o7⟩:=yD (Z HX).2;cases bk:betB kk 1 4
 ·have HK:Hid (res=1):=(Z vM).trans (by simp[refS,bk]);go_wp2_with (first|(go_at_call 202;refine(ix _ _ _ _).mono ?_;rintro e w' ⟨rfl,ur⟩;rw[ur];clear ur w'));go_ret;exact⟨zt (Z HK).symm,Z xq⟩
 go_wp2_with (first|(go_at_call 202;refine(ix _ _ _ _).mono ?_;rintro e w' ⟨rfl,ur⟩;rw[ur];clear ur w'));refine(Z qN _).mono ?_;cases bf:dW ⟨kk,s,ty,li,qt,ii,pr,tg⟩
 ·rintro e w3 ⟨rfl,xN⟩;have xZ:=Q (lW (Z xq) xN);have HK:Hid (res=2):=(Z vM).trans (by simp[refS,bk,bf]);clear xN bf bk;go_wp2_with fail;go_ret;exact⟨zt (Z HK).symm,Z xZ⟩
 rintro e w3 ⟨rfl,xN⟩;have xZ:=Q (lW (Z xq) xN);have uz:Hid (w3.rangeAt w.heap.size 0 [H next,.slice a l.length cap]/\w3.rangeAt (w.heap.size+1) 0 (yx kk s ty li qt ii pr tg)):=⟨zd (Z HX).1 xN (by have:=Z ug;omega),zd (Z HX).2 xN (Z ug)⟩;have hl3:w.heap.size+1<w3.heap.size:=yJ (Z ug) xN.size;clear xN HX xq ug;clear k0 k1 o0 o1 o2 o3 o4 o5 o6 o7;have k0:w3.cell? (U w.heap.size 0)=some (H next):=(Z uz).1 0 _ rfl;have k1:w3.cell? (U w.heap.size 1)=some (.slice a l.length cap):=(Z uz).1 1 _ rfl;obtain⟨o0,o1,o2,o3,o4,o5,o6,o7⟩:=yD (Z uz).2
 by_cases D:kk=1
 ·subst D;have HK:Hid (res=nr):=(Z vM).trans (by rw[<- Z pn];simp[refS,bk,bf]);clear bk bf vM pn;go_wp2_with fail;refine(Z HNW w3 (zq (Z HR) (Z xZ) ya)).mono ?_;rintro e w4 ⟨rfl,xz⟩;have xK:=Q (lW (Z xZ) xz);clear xz;go_wp2_with fail;go_ret;exact⟨zt (Z HK).symm,Z xK⟩
 by_cases h4:kk=4
 ·subst h4;have HK:Hid (res=0):=(Z vM).trans (by simp[refS,bk,bf]);clear bk bf vM pn;go_wp2_with fail;go_ret;exact⟨zt (Z HK).symm,Z xZ⟩
 have b1:(kk==1)=false:=by rw[xd];exact D
 have b4:(kk==4)=false:=by rw[xd];exact h4
 by_cases h3:kk=3
 ·subst h3;cases bq:betB qt 1 1000000
  ·have HK:Hid (res=7):=(Z vM).trans (by simp[refS,bk,bf,bq]);clear bk bf vM pn;go_wp2_with (first|(go_at_call 202;refine(ix _ _ _ _).mono ?_;rintro e w' ⟨rfl,ur⟩;rw[ur];clear ur w'));go_ret;exact⟨zt (Z HK).symm,Z xZ⟩
  have pR:Hid (res=if plc l ii<0 then 9 else match l[(plc l ii).toNat]? with|some o=>if o.left<=qt then 10 else 0|none=>0):=(Z vM).trans (by simp[refS,bk,bf,bq];cases l[(plc l ii).toNat]? <;> rfl)
  clear bk bf vM pn D h4;go_wp2_with (first|(go_at_call 202;refine(ix _ _ _ _).mono ?_;rintro e w' ⟨rfl,ur⟩;rw[ur];clear ur w'));refine(gU _ l ii w3 (zq (Z HR) (Z xZ) ya)).mono ?_;rintro e w4 ⟨rfl,xz⟩;have xK:=Q (lW (Z xZ) xz);have xw:Hid (w4.rangeAt w.heap.size 0 [H next,.slice a l.length cap]/\w4.rangeAt (w.heap.size+1) 0 (yx 3 s ty li qt ii pr tg)):=⟨zd (Z uz).1 xz (by omega),zd (Z uz).2 xz hl3⟩;clear xz;clear k0 k1 o0 o1 o2 o3 o4 o5 o6 o7;have k0:w4.cell? (U w.heap.size 0)=some (H next):=(Z xw).1 0 _ rfl;have k1:w4.cell? (U w.heap.size 1)=some (.slice a l.length cap):=(Z xw).1 1 _ rfl;obtain⟨o0,o1,o2,o3,o4,o5,o6,o7⟩:=yD (Z xw).2;rcases iZ l ii with e|⟨k,o,e,K⟩
  ·have HK:Hid (res=9):=(Z pR).trans (by rw[e];rfl);rw[e];clear e;go_wp2_with fail;go_ret;exact⟨zt (Z HK).symm,Z xK⟩
  ·have pR:Hid (res=if o.left<=qt then 10 else 0):=(Z pR).trans (by rw[e,if_neg (by omega)];simp[K])
   obtain⟨b,off,rfl,A,xm⟩:=Z HC k o K;have pg:=(yG.1 K).1;have c3:w4.cell? (U b (off+k*6+3))=some (H o.left):=zd xm (Z xK) A 3 _ rfl;have hk':(k:Int)<l.length:=by omega
   have oB:(0:Int)<=k:=by omega
   have hkn:¬ (k:Int)<0:=by omega
   rw[e];clear e K xm A pg
   by_cases hq:o.left<=qt
   ·have HK:Hid (res=10):=(Z pR).trans (if_pos hq);have hq':decide (o.left<=qt)=true:=by simpa using hq
    go_wp2_with fail;go_quiet (fail);go_wp2_with fail;go_ret;exact⟨zt (Z HK).symm,zp (Z xK) _⟩
   ·have HK:Hid (res=0):=(Z pR).trans (if_neg hq);have hq':decide (o.left<=qt)=false:=by simpa using hq
    go_wp2_with fail;go_quiet (fail);go_wp2_with fail;go_ret;exact⟨zt (Z HK).symm,zp (Z xK) _⟩
 ·have b3:(kk==3)=false:=by rw[xd];exact h3
  have pR:Hid (res=if plc l ii<0 then 9 else 0):=(Z vM).trans (by
   have hx:¬ (kk=3/\betB qt 1 1000000=false):=fun h=>h3 h.1;have hy:∀o:Od,¬ (kk=3/\o.left<=qt):=fun o h=>h3 h.1;simp only[refS];rw[if_neg (by rw[bk];simp),if_neg (by rw[bf];simp),if_neg D,if_neg h4,if_neg hx]
   by_cases hp:plc l ii<0
   ·rw[if_pos hp,if_pos hp]
   ·rw[if_neg hp,if_neg hp];cases l[(plc l ii).toNat]? with
    | none=>rfl
    | some o=>exact if_neg (hy o))
  clear bk bf vM pn D h4 h3;go_wp2_with fail;refine(gU _ l ii w3 (zq (Z HR) (Z xZ) ya)).mono ?_;rintro e w4 ⟨rfl,xz⟩;have xK:=Q (lW (Z xZ) xz);have xw:Hid (w4.rangeAt w.heap.size 0 [H next,.slice a l.length cap]/\w4.rangeAt (w.heap.size+1) 0 (yx kk s ty li qt ii pr tg)):=⟨zd (Z uz).1 xz (by omega),zd (Z uz).2 xz hl3⟩;clear xz;clear k0 k1 o0 o1 o2 o3 o4 o5 o6 o7;have k0:w4.cell? (U w.heap.size 0)=some (H next):=(Z xw).1 0 _ rfl;have k1:w4.cell? (U w.heap.size 1)=some (.slice a l.length cap):=(Z xw).1 1 _ rfl;obtain⟨o0,o1,o2,o3,o4,o5,o6,o7⟩:=yD (Z xw).2
  by_cases hp:plc l ii<0
  ·have HK:Hid (res=9):=(Z pR).trans (if_pos hp);go_wp2_with fail;go_ret;exact⟨zt (Z HK).symm,Z xK⟩
  ·have HK:Hid (res=0):=(Z pR).trans (if_neg hp);have hp':decide (plc l ii<0)=false:=by simpa using hp
   go_wp2_with fail;go_quiet (fail);go_wp2_with fail;go_ret;exact⟨zt (Z HK).symm,zp (Z xK) _⟩
theorem gErr:Tryz.prog.globalNamed "errors.errorType" = some 0:=by kernel_rfl
theorem rtErr:(Tryz.prog.cutTypes.find? (·.1 == "internal/reflectlite.rtype")).map (·.2) = some 209:=by kernel_rfl
theorem oneErr:((List.range 316).filter fun t=>Tryz.prog.rowNamed t [101,114,114,111,114]) = [74]:=by kernel_rfl
theorem sizeErr:Tryz.prog.types.size = 316:=by kernel_rfl
theorem err_laid {W:World}(h:laidMetH Tryz.prog [("errors.errorType",Rows.laid_errors_errorType)] W):ErrT W:=by
 have h':laidMet Tryz.prog [] W/\handlesMet Tryz.prog [("errors.errorType",Rows.laid_errors_errorType)] W:=h;obtain ⟨name,u,ty,e1,e2,e3,e4,e5⟩:=h'.2 _ (List.mem_singleton.2 rfl);have en:name = [101,114,114,111,114]:=(Option.some.inj e1).symm;subst en;obtain rfl:=Option.some.inj (rtErr.symm.trans e2);have hm:ty ∈ (List.range 316).filter fun t=>Tryz.prog.rowNamed t [101,114,114,111,114]:=List.mem_filter.2 ⟨List.mem_range.2 (by rw [<- sizeErr];exact e3),e4⟩;rw [oneErr] at hm;obtain rfl:=List.mem_singleton.1 hm;have hh:typeHandle Tryz.prog 74 = .pointer (some ⟨2,74,none⟩):=by kernel_rfl
 rw[hh] at e5;simpa[ErrT] using World.var?_cell gErr e5 0


def endR (g:Gr):Int:=if g.bg=0\/(dueG g).kind≠0 then 15 else 0
theorem fieldDu (dk di dt dq dp:Int)(W:World):Sem.run Tryz.prog (Instr.field 123 (.agg #[H dk,H di,H dt,H dq,H dp]) 0) W = .ok (H dk) W:=by kernel_rfl
theorem endRule_any {G B r:Nat}{vq:Value}{g:Gr}(w:World)(h:GS G B r w vq g)(hi:GI g):Calls Tryz.prog 47 #[xj G 0] w fun e w'=>e=ym (H (endR g))/\yn w w':=by
 have hfd:=fieldDu;have HD:=Q (due_any w h hi);have HR:Hid (endR g=if g.bg=0\/(dueG g).kind≠0 then 15 else 0):=rfl
 have c3:=Y h.box 3 rfl;generalize endR g=er at HR |-;generalize dueG g=d at HD HR;obtain⟨dk,di,dt,dq,dp⟩:=d;unfold duV at HD;simp only at HD HR;clear h hi
 by_cases A:g.bg=0
 ·have HQ:=Q (Z HR);rw[if_pos (.inl A)] at HQ;rw[A] at c3;go_enter Tryz.func47,Tryz.ntmps47;go_wp2_with fail;go_ret;exact⟨by rw[Z HQ];rfl,Below.refl _ _⟩
 ·have b0:(g.bg==0)=false:=by simpa using A
  by_cases X:dk=0
  ·have HQ:=Q (Z HR);rw[if_neg (fun h=>h.elim A (fun h=>h X))] at HQ;have b1:(dk != 0)=false:=by simpa using X
   clear X A;go_enter Tryz.func47,Tryz.ntmps47;go_wp2_with fail;refine(Z HD).mono ?_;rintro e w2 ⟨rfl,xE⟩;have HB:=Q xE;clear xE;go_wp2_with fail;go_ret;exact⟨by rw[Z HQ];rfl,Z HB⟩
  ·have HQ:=Q (Z HR);rw[if_pos (.inr X)] at HQ;have b1:(dk != 0)=true:=by simpa using X
   clear X A;go_enter Tryz.func47,Tryz.ntmps47;go_wp2_with fail;refine(Z HD).mono ?_;rintro e w2 ⟨rfl,xE⟩;have HB:=Q xE;clear xE;go_wp2_with fail;go_ret;exact⟨by rw[Z HQ];rfl,Z HB⟩
theorem fbit_nil {p:Nat}(h:fbit p=0):p=0:=by
 unfold fbit at h;split at h
 ·cases h
 ·exact h
theorem plain_zc {c:Cm}(h:plainC c=true):c=zCm:=by
 obtain⟨k,s,t,l,q,i,p,g⟩:=c;simp only[plainC,xe,beq_iff_eq,xf] at h;obtain⟨rfl,rfl,rfl,rfl,rfl,rfl,hp,M⟩:=h;rw[fbit_nil hp]
 have:g=⟨#[]⟩:=by
  obtain⟨⟨d⟩⟩:=g;have e:(⟨⟨d⟩⟩:ByteArray).toList=d:=by rw[ByteArray.toList_eq]
  rw[e] at M;rw[M]
 rw[this];rfl
theorem late_zero {e:Ev}(h:okE e=true)(X:e.kind=3\/e.kind=4\/e.kind=5\/e.kind=9):e.cmd=zCm/\e.reason=0/\(e.kind≠3->e.other=0/\e.price=0):=by
 obtain⟨k,c,id,xh,qty,xi,xg⟩:=e;simp only at X;rcases X with rfl|rfl|rfl|rfl <;> simp[okE,fldK,eO,eM,List.range,List.range.loop] at h <;> simp only[ne_eq] <;> first|exact⟨plain_zc h.2,h.1,fun x=>absurd trivial x⟩|exact⟨plain_zc h.2,h.1.2.2,fun _=>⟨h.1.1,h.1.2.1⟩⟩
theorem due_plain {g:Gr}(h:(dueG g).kind=4\/(dueG g).kind=5):(dueG g).other=0/\(dueG g).price=0:=by
 rcases due_bg (g:=g) (by omega) with⟨-,e⟩|⟨-,e⟩
 ·rw[e] at h |-;unfold takD at h |-
  by_cases D:g.tk.left=0
  ·rw[if_pos D] at h;rcases h with h|h <;> cases h
  rw[if_neg D] at h |-;cases hf:dN g.l (othS g.cm.s) with
  | none=>simp only;unfold lftD;split <;> exact⟨rfl,rfl⟩
  | some o =>
   rw[hf] at h;simp only at h |-
   by_cases E:dY g.cm o=true
   ·rw[if_pos E] at h;rcases h with h|h <;> cases h
   rw[if_neg E];unfold lftD;split <;> exact⟨rfl,rfl⟩
 ·rw[e] at h;rcases dayD_kind g.l with h5|h5 <;> omega
theorem rule_due {g:Gr}{e:Ev}(K:okE e=true)(A:g.bg≠0)(h:zx g e=0):DueIs (dueG g) e/\(e.kind=3\/e.kind=4\/e.kind=5\/e.kind=9):=by
 have X:=fx K;rcases(show e.kind=1\/e.kind=2\/e.kind=3\/e.kind=4\/e.kind=5\/e.kind=6\/e.kind=7\/e.kind=8\/e.kind=9 by omega) with k|k|k|k|k|k|k|k|k
 ·exact absurd (rule1 k h).1 A
 ·exact absurd (rule2 k h) A
 ·refine⟨?_,by omega⟩;unfold zx at h;rw[if_neg (by omega),if_neg (by omega),if_neg (by omega),if_neg (by omega),if_neg (by omega)] at h
  by_cases hd:dueR g e=0
  ·rw[if_neg (by simpa using hd),if_pos k] at h;unfold trR at h;split at h
   ·omega
   split at h
   ·omega
   split at h
   ·omega
   split at h
   ·omega
   rename_i D E h3 h4;have D:=Classical.not_not.1 D;exact⟨by omega,D.2.symm,(Classical.not_not.1 E).symm,(Classical.not_not.1 h4).symm,(Classical.not_not.1 h3).symm⟩
  ·rw[if_pos hd] at h;exact absurd h hd
 iterate 2
  ·refine⟨?_,by omega⟩;have hl:=late_zero K (by omega);unfold zx at h;rw[if_neg (by omega),if_neg (by omega),if_neg (by omega),if_neg (by omega),if_neg (by omega)] at h
   by_cases hd:dueR g e=0
   ·rw[if_neg (by simpa using hd),if_neg (by omega),if_neg (by omega)] at h;split at h
    ·rename_i hj;obtain⟨D,E,h3⟩:=just_eq hj;obtain⟨h4,h5⟩:=due_plain (g:=g) (by omega);obtain⟨h6,h7⟩:=hl.2.2 (by omega);exact⟨D.symm,E.symm,by omega,h3.symm,by omega⟩
    ·omega
   ·rw[if_pos hd] at h;exact absurd h hd
 ·exact absurd (rule6 k h).1 A
 ·exact absurd (rule7 k h).1 A
 ·exact absurd (rule8 k h) A
 ·refine⟨?_,by omega⟩;obtain⟨-,o,-,E,h3,h4⟩:=rule9 k h;obtain⟨h6,h7⟩:=(late_zero K (by omega)).2.2 (by omega);rw[E];exact⟨k.symm,h3.symm,h6.symm,h4.symm,h7.symm⟩
theorem due_one {g:Gr}{e x:Ev}(K:okE e=true)(hx:okE x=true)(A:g.bg≠0)(h:zx g e=0)(hd:DueIs (dueG g) x):e=x:=by
 obtain⟨⟨a1,a2,a3,a4,a5⟩,X⟩:=rule_due K A h;obtain⟨b1,b2,b3,b4,b5⟩:=hd;have D:=late_zero K X;have E:=late_zero hx (by omega);obtain⟨k,c,id,xh,qty,xi,xg⟩:=e;obtain⟨k',c',id',other',qty',price',reason'⟩:=x;simp only at a1 a2 a3 a4 a5 b1 b2 b3 b4 b5 D E;obtain⟨rfl,rfl,-⟩:=D;obtain⟨rfl,rfl,-⟩:=E;rw[<- a1,<- a2,<- a3,<- a4,<- a5,<- b1,<- b2,<- b3,<- b4,<- b5]
theorem run_zero {g g':Gr}{e:Ev}{r:List Ev}(h:runG g (e::r)=(g',0)):zx g e=0/\runG (dK g e) r=(g',0):=by
 by_cases h0:zx g e=0
 ·rw[runG_go h0] at h;exact⟨h0,h⟩
 ·rw[runG_stop h0] at h;exact absurd (Prod.mk.inj h).2 h0
theorem end_zero {g:Gr}(h:endR g=0):g.bg≠0/\(dueG g).kind=0:=by
 unfold endR at h;split at h
 ·cases h
 ·rename_i D;exact⟨fun e=>D (.inl e),Classical.not_not.1 fun e=>D (.inr e)⟩
theorem law_run:∀ {es h2:List Ev}{g g':Gr}{N:Int}{L:List Od},g.bg≠0->Gov g h2 N L->(∀e∈es,okE e=true)->runG g es=(g',0)->endR g'=0->es=h2/\g'.nx=N/\g'.l=L
 | [],[],g,g',N,L,A,M,K,hr,he=>by
  obtain rfl:=(Prod.mk.inj hr).1;exact⟨rfl,M.2.2.1,M.2.2.2⟩
 | [],x::hk,g,g',N,L,A,M,K,hr,he=>by
  obtain rfl:=(Prod.mk.inj hr).1;have D:=M.2.2.1 A;have E:=fx M.1;have h3:=(end_zero he).2;have h4:=D.1;omega
 | e::r,[],g,g',N,L,A,M,K,hr,he=>by
  obtain⟨D,-⟩:=run_zero hr;obtain⟨E,h3⟩:=rule_due (K e (by simp)) A D;have h4:=E.1;have h5:=M.2.1;omega
 | e::r,x::hk,g,g',N,L,A,M,K,hr,he=>by
  obtain⟨D,E⟩:=run_zero hr;have h3:=due_one (K e (by simp)) M.1 A D (M.2.2.1 A);subst h3;obtain⟨h4,h5,h6⟩:=law_run (beg_some (K e (by simp))) M.2.2.2 (fun y hy=>K y (by simp[hy])) E he;exact⟨by rw[h4],h5,h6⟩
theorem cutB_id {s:ByteArray}(h:s.size<=13):cutB s=s:=by
 unfold cutB;split
 ·have e:s.size=13:=by omega
  rw[<- e];exact ByteArray.extract_zero_size
 ·rfl
theorem rule_start {g:Gr}{e:Ev}(X:e.kind=6\/e.kind=7\/e.kind=8)(h:zx g e=0):zX g e=0:=by
 unfold zx at h;rw[if_neg (by omega),if_neg (by omega)] at h;rcases X with k|k|k
 ·rw[if_pos k] at h
  by_cases hs:zX g e=0
  ·exact hs
  ·rw[if_pos hs] at h;exact h
 ·rw[if_neg (by omega),if_pos k] at h;exact h
 ·rw[if_neg (by omega),if_neg (by omega),if_pos k] at h
  by_cases hs:zX g e=0
  ·exact hs
  ·rw[if_pos hs] at h;exact h
theorem lI {e:Ev}(h:okE e=true)(X:e.kind=6\/e.kind=7\/e.kind=8):e.cmd=zCm/\e.other=0/\e.price=0/\e.reason=0:=by
 obtain⟨k,c,id,xh,qty,xi,xg⟩:=e;simp only at X;rcases X with rfl|rfl|rfl <;> simp[okE,fldK,eO,eM,List.range,List.range.loop] at h
 ·exact⟨plain_zc h.2,h.1.1,h.1.2.1,h.1.2.2⟩
 ·exact⟨plain_zc h.2,h.1.1,h.1.2.1,h.1.2.2⟩
 ·exact⟨plain_zc h.2,h.1.2.1,h.1.2.2.1,h.1.2.2.2⟩
theorem law_first {n:Int}{l:List Od}{e:Ev}(K:okE e=true)(h:zx (gr0 n l) e=0):∃R,stE n l (zV e)=e::R:=by
 have X:=fx K;have hnb:∀x:Int,(gr0 n l).bg=x->x≠0->False:=fun x hx h0=>h0 hx.symm;rcases(show e.kind=1\/e.kind=2\/e.kind=3\/e.kind=4\/e.kind=5\/e.kind=6\/e.kind=7\/e.kind=8\/e.kind=9 by omega) with k|k|k|k|k|k|k|k|k
 ·obtain⟨-,D,E⟩:=rule1 k h;obtain⟨kk,c,id,xh,qty,xi,xg⟩:=e;simp only at k D E;subst k;have e1:zV ⟨1,c,id,xh,qty,xi,xg⟩=c:=if_pos rfl;simp[okE,fldK,eO,eM,List.range,List.range.loop] at K;obtain⟨⟨ha,A,hc,hd⟩,he,hi,-⟩:=K;subst ha A hc hd;rw[e1,stE,if_pos (show refR n l c=0 from D),if_pos he,accE];obtain⟨ck,cs,ct,cl,cq,ci,cp,cg⟩:=c;simp only at he hi;subst he hi;exact⟨_,by rw[show id=n from E];rfl⟩
 ·obtain⟨kk,c,id,xh,qty,xi,xg⟩:=e;simp only at k;subst k;have e1:zV ⟨2,c,id,xh,qty,xi,xg⟩=c:=rfl;simp[okE,fldK,eO,eM,List.range,List.range.loop] at K;obtain⟨⟨ha,A,hc,hd⟩,he⟩:=K;subst ha A hc hd
  have D:refR n l c≠0/\refR n l c=xg:=by
   unfold zx at h;rw[if_neg (by show ¬ (2:Int)=1;decide),if_pos rfl,if_neg (by show ¬ (0:Int)≠0;decide)] at h
   by_cases h5:refR (gr0 n l).nx (gr0 n l).l c≠0/\refR (gr0 n l).nx (gr0 n l).l c=xg
   ·exact h5
   ·rw[if_neg h5] at h;cases h
  rw[e1,stE,if_neg D.1,cutB_id he,D.2];exact⟨[],rfl⟩
 ·exact absurd (rule3 k h).1 (by show ¬ (0:Int)=1;decide)
 ·exact absurd (gm (.inl k) h).1 (by show ¬ (0:Int)=1;decide)
 ·exact absurd (gm (.inr k) h).1 (by show ¬ (0:Int)=1;decide)
 ·obtain⟨-,kk,o,D,E,h3,h4⟩:=rule6 k h;have hs:=rule_start (by omega) h;obtain⟨z,c,id,xh,qty,xi,xg⟩:=e;simp only at k D E h3 h4;subst k;obtain⟨e1,e2,e3,e4⟩:=lI K (.inl rfl);simp only at e1 e2 e3 e4;subst e1 e2 e3 e4;have hr:refR n l ⟨2,0,0,0,0,id,0,⟨#[]⟩⟩=0:=(fu hs).2;refine⟨[],?_⟩;show stE n l ⟨2,0,0,0,0,id,0,⟨#[]⟩⟩ = _;rw[stE,if_pos hr,if_neg (by show ¬ (2:Int)=1;decide),if_pos rfl];show(match l[(plc l id).toNat]? with|some o=>_ | none=>_) = _
  rw[show plc l id=(kk:Int) from D,Int.toNat_natCast,show l[kk]? = some o from E,h4]
 ·have hs:=rule_start (by omega) h;obtain⟨z,c,id,xh,qty,xi,xg⟩:=e;simp only at k;subst k;obtain⟨e1,e2,e3,e4⟩:=lI K (.inr (.inl rfl));simp only at e1 e2 e3 e4;subst e1 e2 e3 e4;have hr:refR n l ⟨3,0,0,0,qty,id,0,⟨#[]⟩⟩=0:=(fu hs).2;refine⟨[],?_⟩;show stE n l ⟨3,0,0,0,qty,id,0,⟨#[]⟩⟩ = _;rw[stE,if_pos hr,if_neg (by show ¬ (3:Int)=1;decide),if_neg (by show ¬ (3:Int)=2;decide),if_pos rfl]
 ·have hs:=rule_start (by omega) h
  have hq:e.qty=((l.filter isDy).length:Int):=by
   unfold zx at h;rw[if_neg (by omega),if_neg (by omega),if_neg (by omega),if_neg (by omega),if_pos k,if_neg (by rw[hs];decide)] at h
   by_cases h5:e.qty=(((gr0 n l).l.filter isDy).length:Int)
   ·exact h5
   ·rw[if_neg h5] at h;cases h
  obtain⟨z,c,id,xh,qty,xi,xg⟩:=e;simp only at k hq;subst k;obtain⟨e1,e2,e3,e4⟩:=lI K (.inr (.inr rfl));simp only at e1 e2 e3 e4;subst e1 e2 e3 e4;have e5:id=0:=by simp[okE,fldK,eO,eM,List.range,List.range.loop] at K;exact K.1
  subst e5;have hr:refR n l ⟨4,0,0,0,0,0,0,⟨#[]⟩⟩=0:=(fu hs).2;refine⟨(l.filter dyB).map expE,?_⟩;show stE n l ⟨4,0,0,0,0,0,0,⟨#[]⟩⟩ = _;rw[stE,if_pos hr,if_neg (by show ¬ (4:Int)=1;decide),if_neg (by show ¬ (4:Int)=2;decide),if_neg (by show ¬ (4:Int)=3;decide),hq,day_same]
 ·exact absurd (rule9 k h).1 (by show ¬ (0:Int)=8;decide)
theorem law_eng {n:Int}{l:List Od}{es:List Ev}{g:Gr}(M:GoodL l)(K:∀e∈es,okE e=true)(hr:runG (gr0 n l) es=(g,0))(he:endR g=0) :
  ∃e r,es=e::r/\es=stE n l (zV e)/\g.nx=stN n l (zV e)/\g.l=stL n l (zV e):=by
 cases es with
 | nil =>
  obtain rfl:=(Prod.mk.inj hr).1;exact absurd rfl (end_zero he).1
 | cons e r =>
  obtain⟨D,E⟩:=run_zero hr;obtain⟨R,hR⟩:=law_first (K e (by simp)) D;have hG:=gov_good (n:=n) (c:=zV e) M;rw[hR] at hG;obtain⟨h4,h5,h6⟩:=law_run (beg_some (K e (by simp))) hG.2.2.2 (fun y hy=>K y (by simp[hy])) E he;exact⟨e,r,rfl,by rw[hR,h4],h5,h6⟩
theorem l01Put_any (n:Int)(w:World)(h0:-9223372036854775808<=n)(D:n<=9223372036854775807) :
  Calls Tryz.prog 114 #[H n] w fun e w'=>∃v,e=ym v/\OwnT w.heap.size w' v (putU (zz n))/\yn w w':=by
 obtain⟨i0,hi,uE,uw,uC⟩:=info_parts Tryz.infoByte;have HL:=Q (ft _ (zz_lt n h0 D));have HX:=Q (not_eq n h0);have HY:=Q (fun h=>twice_eq n h D);clear h0 D;rcases Int.lt_or_le n 0 with hn|hn
 all_goals go_enter Tryz.func114,Tryz.ntmps114
 all_goals go_wp2_with fail
 all_goals first|rw[Z HX hn]|rw[Z HY hn]
 all_goals clear HX HY
 all_goals generalize hz:zz n=u0 at *
 all_goals have HZ:=Q hz
 all_goals clear hz
 all_goals go_loopw [3,4] (fun u v wr=>∃(x:Nat) (done:List Int),u = .int .u64 x/\done++putU x=putU u0/\wr.ownsRow w.heap.size 5 1 v done.length (done.map (Value.int .u8))/\yn w wr/\w.heap.size<wr.heap.size) (fun u _ _=>(intOf u).toNat)
 case atStart=>exact⟨u0,[],rfl,rfl,World.ownsRow_made _ _ _ ya (by decide) rfl,lT _ _,by simp⟩
 case atStart=>exact⟨u0,[],rfl,rfl,World.ownsRow_made _ _ _ ya (by decide) rfl,lT _ _,by simp⟩
 all_goals
  obtain⟨x,done,rfl,oQ,xL,xk,uX⟩:=hrel;have HD:=Q oQ;have cx:=putU_at (Z HL) oQ;clear oQ
  by_cases xH:x<128
  ·have HE:=Q (putU_end xH (Z HD));go_wp2_with (at_builtin;go_must (refine wpList_append_own _ rfl _ _ 22 rfl w.heap.size 5 i0 (.int .u8 0) 1 1 Tryz.underlying22 hi uE uw uC rfl (by decide) _ _ _ rfl (xL.alloc _) (yq wr 0) 1 1 [.int .u8 (x:Int)] rfl rfl (cell_one_new _ _ _) (by simp[Value.oneCell']) (by unfold maxLen;omega) (by omega) (by simp;omega) ?_);intro v' w1 hown' oR _);go_ret;exact⟨_,rfl,ownT_done hown' ((Z HE).trans (congrArg putU (Z HZ).symm)) (by rw[Z HZ];have:=Z HL;omega),below_push xk xL (by omega) oR⟩
  ·have uq:(128:Int)<=x:=by omega
   have hor:=or128 x;go_wp2_with (at_builtin;go_must (refine wpList_append_own _ rfl _ _ 22 rfl w.heap.size 5 i0 (.int .u8 0) 1 1 Tryz.underlying22 hi uE uw uC rfl (by decide) _ _ _ rfl (xL.alloc _) (yq wr 0) 1 1 [.int .u8 ((x:Int) % 128+128)] rfl rfl (cell_one_new _ _ _) (by simp[Value.oneCell']) (by unfold maxLen;omega) (by omega) (by simp;omega) ?_);intro v' w1 hown' oR _);go_roundw
   case rel=>exact⟨x / 128,done ++ [(x:Int) % 128+128],by go_num,putU_step xH (Z HD),own_push hown',below_push xk xL (by omega) oR,size_push uX oR⟩
   case measure=>simp[intOf];omega
end Go.Proofs.YtbghmldggahjiaaGreatDoor
