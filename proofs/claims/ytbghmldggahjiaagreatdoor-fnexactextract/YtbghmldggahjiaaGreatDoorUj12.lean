/-.-/
import Derived.Test.YtbghmldggahjiaaGreatDoorUj11
import Derived.Laws.EntriesVeiled
set_option linter.unusedVariables false
set_option maxHeartbeats 6400000
set_option maxRecDepth 100000
namespace Go.Proofs.YtbghmldggahjiaaGreatDoor
open Go.RowKit
theorem zNd_b:∀i,i<21->(Tryz.zeroCells249.toList.drop (2+i*8)).take 8=zNd.vs
 | 0,_=>by kernel_rfl
 | 1,_=>by kernel_rfl
 | 2,_=>by kernel_rfl
 | 3,_=>by kernel_rfl
 | 4,_=>by kernel_rfl
 | 5,_=>by kernel_rfl
 | 6,_=>by kernel_rfl
 | 7,_=>by kernel_rfl
 | 8,_=>by kernel_rfl
 | 9,_=>by kernel_rfl
 | 10,_=>by kernel_rfl
 | 11,_=>by kernel_rfl
 | 12,_=>by kernel_rfl
 | 13,_=>by kernel_rfl
 | 14,_=>by kernel_rfl
 | 15,_=>by kernel_rfl
 | 16,_=>by kernel_rfl
 | 17,_=>by kernel_rfl
 | 18,_=>by kernel_rfl
 | 19,_=>by kernel_rfl
 | 20,_=>by kernel_rfl
 | n+21,h=>absurd h (by omega)
theorem zQo_b:∀i,i<21->(Tryz.zeroCells249.toList.drop (171+i*7)).take 7=zQo.vs
 | 0,_=>by kernel_rfl
 | 1,_=>by kernel_rfl
 | 2,_=>by kernel_rfl
 | 3,_=>by kernel_rfl
 | 4,_=>by kernel_rfl
 | 5,_=>by kernel_rfl
 | 6,_=>by kernel_rfl
 | 7,_=>by kernel_rfl
 | 8,_=>by kernel_rfl
 | 9,_=>by kernel_rfl
 | 10,_=>by kernel_rfl
 | 11,_=>by kernel_rfl
 | 12,_=>by kernel_rfl
 | 13,_=>by kernel_rfl
 | 14,_=>by kernel_rfl
 | 15,_=>by kernel_rfl
 | 16,_=>by kernel_rfl
 | 17,_=>by kernel_rfl
 | 18,_=>by kernel_rfl
 | 19,_=>by kernel_rfl
 | 20,_=>by kernel_rfl
 | n+21,h=>absurd h (by omega)
theorem zTree_b (w:World)(sd:Int):dQ 249 true (w.alloc (Obj.cells Tryz.zeroCells249 249)) w.heap.size sd []:=
 ⟨zTS,.nil,tm_zero w _ _ (by kernel_rfl) (by kernel_rfl) zNd_b (by kernel_rfl) zQo_b,ti_zero _,qi_zero _,Nat.le_refl _⟩
theorem plant_b (v:Value)(l:List Od)(sd:Int)(w:World)(hr:RdR Od.vs 6 w v l)(hn:l.length<=20)(hl:∀o'∈l,0<=o'.left/\o'.left<=1000000) :
  Calls Tryz.prog 111 #[v,H sd] w fun e w' =>
   e=ym (yp w 0)/\dQ 249 true w' w.heap.size sd (zB l sd)/\yn w w':=by
 obtain⟨a,cap,rfl,xD,hc⟩:=hr
 have xp:∀(k:Nat) (c:Od),l[k]? = some c->∃b off,a=some (U b off)/\b<w.heap.size/\w.rangeAt b (off+k*6) c.vs:=by
  intro k c X;obtain⟨b,off,D,E,h3⟩:=hc (by intro h;rw[h] at X;simp at X);exact⟨b,off,D,E,h3 k c X⟩
 have HC:=Q xp;have HL:=Q hl;have HN:=Q hn;clear xp hc hl;have HZ:=Q (zTree_b w sd);have qe:Hid (yn w (w.alloc (Obj.cells Tryz.zeroCells249 249))):=lT _ _;go_enter Tryz.func111,Tryz.ntmps111;go_wp2_with fail;generalize (w.alloc (Obj.cells Tryz.zeroCells249 249))=W0 at HZ qe |-;go_loopw [11] (fun i wr=>∃k:Nat,k<=l.length/\i=H k/\dQ 249 true wr w.heap.size sd (zB (l.take k) sd)/\yn w wr) (fun i _=>l.length-(intOf i).toNat)
 case atStart=>exact⟨0,Nat.zero_le _,rfl,Z HZ,Z qe⟩
 case round =>
  obtain⟨k,X,rfl,htr,xk⟩:=hrel;have aE:=Q htr;have uH:=Q xk;clear htr xk HZ qe
  by_cases xH:k<l.length
  ·obtain⟨c,qk⟩:∃c,l[k]? = some c:=⟨_,yH xH⟩;have aB:=Q qk;obtain⟨b,off,rfl,A,xm⟩:=Z HC k c qk;obtain⟨g0,g1,g2,g3,g4,g5⟩:=zM (zd xm (Z uH) A);have uq:(k:Int)<l.length:=by omega
   clear qk xm A
   by_cases vh:c.side=sd
   ·have HIT:Hid (zB (l.take (k+1)) c.side=zB (l.take k) c.side ++ [c]):=ofSide_snoc l k c (Z aB);subst vh
    have vC:(zB (l.take k) c.side).length<20:=by
     have D:(zB (l.take k) c.side).length<=(l.take k).length:=List.length_filter_le _ _;have E:(l.take k).length<=k:=List.length_take_le _ _;have h3:=Z HN;omega
    have ak:=Q vC;have xm:=Z HL c (yO (Z aB));have bI:=Q xm;clear vC xm;go_wp2_with fail;refine(add_b w.heap.size c.side (zB (l.take k) c.side) c _ (zH (Z aE) (Below.heap_alloc wr _ _ (zZ (Z aE)))) rfl (Z ak) (fun o' qF=>Z HL o' (List.mem_of_mem_take (List.mem_filter.1 qF).1)) (Z bI)).mono ?_;rintro e w2 ⟨rfl,cI,uZ⟩;rw[<- Z HIT] at cI;have bW:=Q cI;have xq:=Q (((Z uH).alloc (Z uH).size _).grown uZ (by rw[zh];have:=(Z uH).size;omega) (fun g M=>by obtain rfl:=Option.some.inj M;exact Nat.le_refl _));clear cI uZ;go_wp2_with fail;go_roundw
    case rel=>exact⟨k+1,by omega,by go_num,Z bW,Z xq⟩
    case measure=>simp[intOf];omega
   ·have HIT:Hid (zB (l.take (k+1)) sd=zB (l.take k) sd):=ofSide_skip l k c (Z aB) vh;go_wp2_with fail;go_roundw
    case rel =>
     refine⟨k+1,by omega,by go_num,?_,?_⟩
     ·rw[Z HIT];exact zH (Z aE) (Below.heap_alloc wr _ _ (zZ (Z aE)))
     ·exact(Z uH).alloc (Z uH).size _
    case measure=>simp[intOf];omega
  ·go_wp2_with fail;go_ret;have h:=Z aE;rw[yZ (by omega)] at h;exact⟨rfl,h,Z uH⟩
theorem infoH_b:(Tryz.prog.info? 239).map (fun i=>(i.zero,i.size,i.bytes))=some (some (H 0),1,8):=by kernel_rfl
theorem cellsH_b (w:World)(cs:List Value)(t:TypeId)(j:Nat)(u:Value)(h:cs[j]? = some u):(w.alloc (Obj.cells cs.toArray t)).cell? (((yq w 0):Addr).add j)=some u:=by
 rw[Addr.add_mid,cell_of_row _ w.heap.size (0+j) cs.toArray t (0,0) (heap_alloc_new w _)];simpa using h
def hval_b (h:Nat):Value:=H h
theorem ranked_b (S:TS)(b B:Nat)(dj:b<B):∀(t:Tr) (w:World) (v:Value) (done:List Nat) (part:Nat),TM 249 w b S->Rep S.nd t part->(∀h∈t.hs,h<21)->B<=w.heap.size ->
  w.ownsRow B 239 1 v done.length (done.map hval_b)->done.length+t.hs.length<=1000 ->
  Calls Tryz.prog 196 #[xj b 0,v,H part] w fun e w' =>
   ∃v',e=ym v'/\w'.ownsRow B 239 1 v' (done++t.hs).length ((done++t.hs).map hval_b)/\Below B w w'
 | .nil,w,v,done,part,hT,hrep,hh,hB,xL,xD=>by
  obtain rfl:part=0:=hrep;have HO:=Q xL;clear xL hT hh;go_enter Tryz.func196,Tryz.ntmps196;go_wp2_with fail;go_ret;exact⟨v,rfl,by simpa[Tr.hs] using Z HO,Below.refl _ _⟩
 | .node h l r,w,v,done,part,hT,hrep,hh,hB,xL,xD=>by
  obtain⟨rfl,h0,hl,hr⟩:=hrep;have HO:=Q xL;have HT:=Q hT;have HL:=Q hl;have HR:=Q hr;have aP:done.length+(l.hs.length+1+r.hs.length)<=1000:=by simp[Tr.hs] at xD;omega
  have qU:=hh part (by simp[Tr.hs]);have HHL:=Q (fun a (ha:a∈l.hs)=>hh a (by simp[Tr.hs,ha]));have HHR:=Q (fun a (ha:a∈r.hs)=>hh a (by simp[Tr.hs,ha]));have h21':(part:Int)<21:=by omega
  have h0':¬ ((part:Int)=0):=by omega
  have oE:=Q aP;obtain⟨-,-,-,-,n4,-⟩:=zS (hT.nd part qU);obtain⟨i0,hi,uE,uw,uC⟩:=info_parts infoH_b;clear xL hT hh hl hr xD aP;go_enter Tryz.func196,Tryz.ntmps196;go_wp2_with fail;refine(ranked_b S b B dj l w v done _ (Z HT) (Z HL) (Z HHL) hB (Z HO) (by have:=Z oE;omega)).mono ?_;rintro e w1 ⟨v1,rfl,jQ,xR⟩;have pp:=Q jQ;have ud:=Q xR;have hsz1:=xR.size;have hla:(done++l.hs).length<=999:=by have:=Z oE;rw[yP];omega
  obtain⟨-,-,-,-,-,n5,-⟩:=zS ((gN (Z HT) xR dj).nd part qU);clear jQ xR n4;go_wp2_with (at_builtin;go_must (refine wpList_append_own _ rfl _ _ 267 rfl B 239 i0 _ 1 8 Tryz.underlying267 hi uE uw uC rfl (by decide) v1 (done++l.hs).length ((done++l.hs).map hval_b) rfl ((Z pp).alloc _) (yq w1 0) 1 1 [hval_b part] rfl rfl (cellsH_b w1 _ _) (by simp[Value.oneCell',hval_b]) (by unfold maxLen;omega) (by omega) (by simp at hla |-;omega) ?_);intro v2 w2 aQ uZ _;have pQ:=Q aQ;have xq:=Q (((Z ud).alloc (yN hB hsz1) _).grown uZ (by rw[zh];omega) (fun k X=>((Z pp).lt k X).1));have m5:=(zS ((gN (Z HT) (Z xq) dj).nd part qU)).2.2.2.2.2.1;clear aQ uZ n5)
  have hsz2:=(Z xq).size;refine(ranked_b S b B dj r w2 v2 (done++l.hs ++ [part]) _ (gN (Z HT) (Z xq) dj) (Z HR) (Z HHR) (by omega) (by simpa[Nat.add_assoc] using Z pQ) (by have:=Z oE;simp;omega)).mono ?_;rintro e w3 ⟨v3,rfl,pI,xN⟩;have bd:=Q pI;have xZ:=Q ((Z xq).trans xN);clear pI xN m5;go_wp2_with fail;go_ret;exact⟨v3,rfl,by simpa[Tr.hs] using Z bd,Z xZ⟩
theorem infoLv_b:(Tryz.prog.info? 241).map (fun i=>(i.zero,i.size,i.bytes))=some (some (.agg #[H 0,H 0,H 0,H 0]),4,32):=by kernel_rfl
theorem takeR_b {α:Type}(l:List α)(k:Nat)(c:α)(h:l[k]? = some c):l.take (k+1)=l.take k ++ [c]:=by
 obtain⟨X,rfl⟩:=yG.1 h;rw[List.take_succ_eq_append_getElem X]
theorem ex {W:World}{B B':Nat}{e:TypeId}{sz:Nat}{v:Value}{n:Nat}{xs:List Value}(h:W.ownsRow B e sz v n xs)(hB:B'<=B):W.ownsRow B' e sz v n xs:=
 ⟨h.1,by
  rcases h.2 with D|⟨g',c',xr,D,E,h3⟩
  ·exact .inl D
  ·exact .inr ⟨g',c',xr,D,yN hB E,h3⟩⟩
theorem flat1_b (l:List Nat):(l.flatMap fun h=>[hval_b h])=l.map hval_b:=by
 induction l with
 | nil=>rfl
 | cons a r ih=>rw[List.flatMap_cons,ih];rfl
theorem levelsO_b (b:Nat)(sd:Int)(seq:List Od)(w:World)(h:dQ 249 true w b sd seq)(hn:seq.length<=20) :
  Calls Tryz.prog 158 #[xj b 0] w fun e w' =>
   ∃v',e=ym v'/\w'.ownsRow w.heap.size 241 4 v' (dX true sd seq).length ((dX true sd seq).flatMap Lv.vs)/\yn w w':=by
 obtain⟨S,t,hT,hi,hq,jC⟩:=h;have hlv:=lo hi hq;rw[<- hlv];have jY:∀a∈t.hs,a<21:=fun a ha=>by have:=(hi.range a ha).2;omega
 have xD:t.hs.length<=20:=by rw[hi.len];omega
 have HT:=Q hT;have HR:=Q hi.rep;have HH:=Q jY;have oU:=hT.root;have aL:=tm_lt hT;generalize ht:t.hs=hs at *;have HHS:=Q ht;have HNIL:=Q (World.ownsRow_nil w w.heap.size 239 1);obtain⟨i0,vA,uE,uw,uC⟩:=info_parts infoLv_b;clear hi hq jC hlv hT jY ht;go_enter Tryz.func158,Tryz.ntmps158;go_wp2_with fail;refine(ranked_b S b w.heap.size aL t w _ [] S.root (Z HT) (Z HR) (by rw[Z HHS];exact Z HH) ya (Z HNIL) (by rw[Z HHS];simp;omega)).mono ?_;rintro e w1 ⟨v1,rfl,jQ,xR⟩;rw[List.nil_append,Z HHS] at jQ;have ud:=Q xR;have HOR:=Q (gh (f:=fun h=>[hval_b h]) (fun _=>rfl) (by omega) (show w1.ownsRow w.heap.size 239 1 v1 hs.length (hs.flatMap fun h=>[hval_b h]) by rw[flat1_b];exact jQ));obtain⟨a,cap,rfl,_,hc⟩:=Z HOR
 have xp:∀k h,hs[k]? = some h->∃g,a=some (U g 0)/\g<w1.heap.size/\w1.cell? (U g (0+k*1+0))=some (H (h:Nat)):=fun k h X=>by
  obtain⟨g,D,_,h3,h4,_⟩:=hc (by intro e;rw[e] at X;simp at X);exact⟨g,D,h3,h4 k h X 0 _ rfl⟩
 have HC:=Q xp;clear jQ xR hc xp oU;go_wp2_with fail;have xR:=(Z ud).size;go_loopw [3,13] (fun ov iv wr=>∃(k:Nat) (done:List Lv),k<=hs.length/\iv=H k/\Hid (done=(hs.map fun h=>(S.nd h).lv).take k)/\wr.ownsRow w1.heap.size 241 4 ov done.length (done.flatMap Lv.vs)/\yn w1 wr) (fun _ iv _=>hs.length-(intOf iv).toNat)
 case atStart=>exact⟨0,[],Nat.zero_le _,rfl,by simp[Hid],World.ownsRow_nil _ _ _ _,Below.refl _ _⟩
 case round =>
  obtain⟨k,done,X,rfl,hd,xL,xk⟩:=hrel;have jy:=Q xL;have HB:=Q xk;have cx:done.length=k:=by rw[Z hd,List.length_take,List.length_map];omega
  clear xL xk
  by_cases xH:k<hs.length
  ·obtain⟨h,hkh⟩:∃h,hs[k]? = some h:=⟨_,yH xH⟩;have aB:Hid ((hs.map fun h=>(S.nd h).lv)[k]? = some (S.nd h).lv):=by show _ = _;rw[List.getElem?_map,hkh];rfl
   obtain⟨g,rfl,M,xm⟩:=Z HC k h hkh;have qU:=Z HH h (yO hkh);have h21':(h:Int)<21:=by omega
   have kL:=((Z HB).cell (p:=(U g (0+k*1+0))) M).trans xm;rw[show 0+k*1+0=k by omega] at kL;have hTr:=gN (Z HT) ((Z ud).trans ((Z HB).mono xR)) aL;obtain⟨n0,n1,n2,n3,-⟩:=zS (hTr.nd h qU);have uq:(k:Int)<hs.length:=by omega
   have hsr:=(Z HB).size;clear hkh xm hTr M;go_wp2_with (at_builtin;go_must (refine wpList_append_own _ rfl _ _ 183 rfl w1.heap.size 241 i0 _ 4 32 Tryz.underlying183 vA uE uw uC rfl (by decide) _ done.length (done.flatMap Lv.vs) rfl ((Z jy).alloc _) (yq wr 0) 1 1 (S.nd h).lv.vs rfl rfl (cellsH_b wr _ _) (by simp[Value.oneCell',Lv.vs,Nd.lv]) (by unfold maxLen;omega) (by omega) (by simp;omega) ?_);intro v4 w4 pJ dw _);go_roundw
   case rel =>
    refine⟨k+1,done ++ [(S.nd h).lv],by omega,by go_num,?_,?_,?_⟩
    ·show done ++ [(S.nd h).lv] = _;rw[takeR_b _ k _ (Z aB),<- Z hd]
    ·simpa using pJ
    ·exact((Z HB).alloc hsr _).grown dw (by simp;omega) fun k X=>((Z jy).lt k X).1
   case measure=>simp[intOf];omega
  ·go_wp2_with fail;go_ret;have h:=Z hd;rw[yZ (by rw[List.length_map];omega)] at h;subst h;exact⟨_,rfl,ex (Z jy) xR,(Z ud).trans ((Z HB).mono xR)⟩
theorem levels_b (b:Nat)(sd:Int)(seq:List Od)(w:World)(h:dQ 249 true w b sd seq)(hn:seq.length<=20) :
  Calls Tryz.prog 158 #[xj b 0] w fun e w' =>
   ∃v',e=ym v'/\OwnR Lv.vs 4 w.heap.size w' v' (dX true sd seq)/\yn w w':=by
 have xD:(dX true sd seq).length<=20:=by
  obtain⟨S,t,hT,hi,hq,jC⟩:=h;rw[<- lo hi hq,List.length_map,hi.len];omega
 refine(levelsO_b b sd seq w h hn).mono ?_;rintro e w' ⟨v',rfl,K,A⟩;exact⟨v',rfl,gh Lv.len (by omega) K,A⟩
theorem best_b {S:TS}:∀ {t:Tr} {v:Nat},Rep S.nd t v->t ≠ .nil->v∈t.hs/\((S.nd v).be=0->t.hs.head? = some v)/\((S.nd v).be≠0->∃l,Rep S.nd l (S.nd v).be/\l ≠ .nil/\l.hs.head? = t.hs.head?/\l.hs.length<t.hs.length/\∀a∈l.hs,a∈t.hs)
 | .nil,_,_,h=>absurd rfl h
 | .node h l r,v,⟨e,h0,D,E⟩,_=>by
  subst e;refine⟨by simp[Tr.hs],fun A=>?_,fun A=>⟨l,D,?_,?_,?_,fun a ha=>by simp[Tr.hs,ha]⟩⟩
  ·rw[A] at D;obtain rfl:=rep_nil D;rfl
  ·rintro rfl;exact A D
  ·cases l with
   | nil=>exact absurd D A
   | node a l' r'=>simp[Tr.hs]
  ·simp[Tr.hs]
def FrI_b (S:TS)(hd:Option Nat)(w0:World)(k:Nat)(p:Value)(wr:World):Prop:=∃(t:Tr) (v:Nat),p=H v/\Rep S.nd t v/\t ≠ .nil/\t.hs.head? = hd/\t.hs.length<=k/\(∀a∈t.hs,a<21)/\w0=wr
theorem front_b (b:Nat)(sd:Int)(seq:List Od)(w:World)(h:dQ 249 true w b sd seq)(hn:seq.length<=20) :
  Calls Tryz.prog 156 #[xj b 0] w fun e w'=>e=ym (frOf (quOf true seq))/\yn w w':=by
 obtain⟨S,t,hT,hi,hq,jC⟩:=h;have hou:=tree_orders hi hq;have jY:∀a∈t.hs,a<21:=fun a ha=>by have:=(hi.range a ha).2;omega
 have HT:=Q hT;have oU:=hT.root;have aL:=tm_lt hT
 by_cases ks:S.root=0
 ·have ht:=hi.rep;rw[ks] at ht oU;obtain rfl:=rep_nil ht;have HF:Hid (frOf (quOf true seq) = .tuple #[zOdv,.bool false]):=by show _ = _;rw[<- hou];rfl
  clear hi hq jC hou hT ht jY;go_enter Tryz.func156,Tryz.ntmps156;go_wp2_with fail;go_returns;refine⟨by rw[Z HF];rfl,?_⟩;go_grown
 ·have xy:t ≠ .nil:=by rintro rfl;exact ks hi.rep
  have HI:=Q hi;have HQ:=Q hq;have HOU:=Q hou;have HH:=Q jY;have HNE:=Q xy;have hr0':¬ ((S.root:Int)=0):=by omega
  clear hi hq jC hou hT jY xy;go_enter Tryz.func156,Tryz.ntmps156;go_wp2_with fail
  go_loopg [4] (t.hs.length) (fun k p wr=>FrI_b S t.hs.head? (w.alloc (J (yw 0 0 0 0 0 ⟨#[]⟩).toArray 98)) k p wr)
  case atStart=>exact⟨t,S.root,rfl,(Z HI).rep,Z HNE,rfl,Nat.le_refl _,Z HH,rfl⟩
  case round =>
   obtain⟨t1,v,rfl,D,E,h3,h4,h5,rfl⟩:=hrel;obtain⟨b1,b2,b3⟩:=best_b D E;have hv21:=h5 v b1;have hv21':(v:Int)<21:=by omega
   have pV:=eH (Z HT) (Below.heap_alloc w (J (yw 0 0 0 0 0 ⟨#[]⟩).toArray 98) b aL);obtain⟨-,-,-,-,n4,-,n6,-⟩:=zS (pV.nd v hv21);have H3:=Q h3;have H4:=Q h4;have H5:=Q h5
   by_cases pf:(S.nd v).be=0
   ·have aN:=b2 pf;rw[h3] at aN;have hvm:v∈t.hs:=List.mem_of_head? aN;have hQ:=(Z HQ).q v hvm
    obtain⟨e,rest,hqs⟩:∃e rest,qs seq (S.nd v).ticks=e::rest:=by
     cases hqq:qs seq (S.nd v).ticks with
     | nil=>exact absurd hqq hQ.ne
     | cons e rest=>exact⟨e,rest,rfl⟩
    have hch:=hQ.chain;rw[hqs] at hch;obtain⟨he,he0,-⟩:=hch
    have he21:e<21:=by
     have:=(fD (S.nd v).ticks seq 1 e (by have h:e∈qs seq (S.nd v).ticks:=(by rw[hqs];simp);exact h)).2.1
     omega
    have he21':(e:Int)<21:=by omega
    have HF:Hid (frOf (quOf true seq) = .tuple #[(S.qo e).od.val,.bool true]):=by
     show _ = _;rw[<- Z HOU]
     obtain⟨tl,htl⟩:∃tl,t.hs=v::tl:=by
      cases hh:t.hs with
      | nil=>rw[hh] at aN;simp at aN
      | cons a r=>rw[hh] at aN;simp at aN;rw[aN];exact⟨r,rfl⟩
     rw[htl,List.flatMap_cons,hqs];rfl
    obtain⟨q0,q1,q2,q3,q4,q5,-⟩:=iG (pV.qo e he21);rw[he] at n6;rw[pf] at n4;clear D E h3 h4 h5 b1 b2 b3 pV aN hvm hQ hqs he pf;go_wp2_with fail
    go_region
    go_wp2_with fail;go_returns;refine⟨by rw[Z HF];rfl,?_⟩;go_grown
   ·obtain⟨l,l1,l2,l3,l4,l5⟩:=b3 pf;have hbe':¬ (((S.nd v).be:Int)=0):=by omega
    have HL:Hid (Rep S.nd l (S.nd v).be/\l ≠ .nil/\l.hs.head? = t1.hs.head?/\l.hs.length<t1.hs.length/\∀a∈l.hs,a∈t1.hs):=⟨l1,l2,l3,l4,l5⟩;clear D E h3 h4 h5 b1 b2 b3 pV l1 l2 l3 l4 l5 pf;go_wp2_with fail
    go_roundg (l.hs.length)
    case measure=>have:=Z H4;have:=(Z HL).2.2.2.1;omega
    case rel=>exact⟨l,_,rfl,(Z HL).1,(Z HL).2.1,(Z HL).2.2.1.trans (Z H3),Nat.le_refl _,fun a ha=>Z H5 a ((Z HL).2.2.2.2 a ha),rfl⟩
def fo (b:Nat):Value:=.agg #[.func (.func 156) #[xj b 0] #[],.func (.func 157) #[xj b 0] #[],.func (.func 158) #[xj b 0] #[]]
theorem ask_b (b:Nat)(w:World) :
  Calls Tryz.prog 110 #[xj b 0] w fun e w'=>e=ym (fo b)/\yn w w':=by
 have hmf:∀(fn:Fn) (first cap:Array Value) (w:World),(Instr.makeFunc fn first cap).run Tryz.prog w = .ok (.func fn first cap) w:=fun _ _ _ _=>rfl;go_enter Tryz.func110,Tryz.ntmps110;go_wp2_with fail;go_returns;refine⟨rfl,?_⟩;go_grown
theorem better_s (a c:Int)(w:World) :
  Calls Tryz.prog 246 #[.agg #[],H a,H c] w fun e w'=>e=ym (.bool (decide (a<c)))/\w.grownBy w' none:=by
 go_enter Tryz.func246,Tryz.ntmps246;go_wp2_with fail;go_ret;exact⟨rfl,World.grownBy_alloc _ _ _⟩
theorem method_s (w:World):Sem.run Tryz.prog (method 416 190 (.agg #[]) "loop.example/g00092/impl.better") w = .ok (246,.agg #[]) w:=by kernel_rfl
theorem part_s {w:World}{b:Nat}(h:∃xr,w.heap[b]? = some (.cells xr 252 (0,0))):Sem.run Tryz.prog (partAt (U b 0) 0 0) w = .ok (U b 0) w:=by
 obtain⟨xr,h⟩:=h;have hc:Tryz.prog.cellsOf 252 = 318:=by kernel_rfl
 have hy:byteOfCell Tryz.prog Tryz.prog.depth 252 0=some 0:=by kernel_rfl
 have hs:w.shape? b=some (252,xr.size):=by simp[World.shape?,h]
 simp[partAt,byteOf,noView,viewAt,hs,hc,hy]
theorem levelFor_s (b:Nat)(S:TS)(t:Tr)(o:Od)(w:World)(hT:TM 252 w b S)(hi:TI false S t)(jC:S.lc<20) :
  Calls Tryz.prog 199 #[xj b 0,.agg (yw o.id o.side o.ticks o.left o.life o.tag).toArray] w fun e w' =>
   ∃(h:Nat),e=ym (H h)/\LFEnd false 252 b S t o w h w':=by
 have HT:=Q hT;have HI:=Q hi;clear hT hi;go_enter Tryz.func199,Tryz.ntmps199;go_wp2_with fail
 have HW:Hid (∃W,W=(w.alloc (J (yw o.id o.side o.ticks o.left o.life o.tag).toArray 98))/\W.rangeAt w.heap.size 0 o.vs/\TM 252 W b S/\w.grownBy W (some b)/\w.heap.size<W.heap.size/\b≠w.heap.size):=
  ⟨_,rfl,zo w o.vs _,eH (Z HT) (Below.heap_alloc w _ _ (tm_lt (Z HT))),World.grownBy_alloc _ _ _,by rw[zh];omega,by have:=tm_lt (Z HT);omega⟩
 obtain⟨W,hW,hWW⟩:=Z HW;rw[<- hW];have bX:=Q hWW;clear hW hWW HW HT
 go_loopg [5] (t.hs.length) (fun k p wr=>LFI false b S t o.ticks W k p wr)
 case atStart=>exact⟨[],t,rfl,Nat.le_refl _,way_start (Z HI) _,yR _ _⟩
 case round =>
  obtain⟨c,u,rfl,X,hw,M⟩:=hrel;have oH:=Q hw;have HG:=Q M;have HK:=Q X;have hT:=iI (Z bX).2.1 M (by simp);have c0:=cur_cell hT (dJ c) (cur_ok (Z HI) hw jC);obtain⟨o0,o1,o2,o3,o4,o5⟩:=zM (zA (Z bX).1 M (Z bX).2.2.2.1 (by simp));clear X hw M
  by_cases ha:S.rd (dJ c)=0
  ·have ks:=hT.lc;have hf:=hT.fr;have HA0:=Q ha;rw[ha] at c0;have hlc':(S.lc:Int)<20:=by omega
   have e1:((S.lc+1:Nat):Int)=(S.lc:Int)+1:=by omega
   have ql:=cur_ok (Z HI) (Z oH) jC;have t1:=tm_lc hT (S.lc+1);have t2:=tm_cur t1 (dJ c) ql (S.lc+1);rw[e1] at t1 t2;have d2:_ = _:=(cur_cell t1 (dJ c) ql).trans (congrArg (fun x:Nat=>some (H x)) (show TS.rd _ (dJ c)=0 from by rw[<- ha];cases (dJ c) <;> rfl));have d3:_ = _:=t2.lc;rw[(wr_same _ _ _).1] at d3;simp only[e1] at d3;have g1:=t1.fr;have g2:=t2.fr;obtain⟨n0,n1,n2,n3,-⟩:=zS (t2.nd (S.lc+1) (by omega));have A:b≠w.heap.size:=(Z bX).2.2.2.2
   have p1:((wr.setCell (U b 1) (H ((S.lc:Int)+1))).setCell (U b ((dJ c).off)) (H ((S.lc:Int)+1))).cell? (yq w (0+1))=some (H o.side):=by
    rw[yL _ _ _ _ (fun e=>A (congrArg Addr.block e)),yL _ _ _ _ (fun e=>A (congrArg Addr.block e))];exact o1
   have p2:((wr.setCell (U b 1) (H ((S.lc:Int)+1))).setCell (U b ((dJ c).off)) (H ((S.lc:Int)+1))).cell? (yq w (0+2))=some (H o.ticks):=by
    rw[yL _ _ _ _ (fun e=>A (congrArg Addr.block e)),yL _ _ _ _ (fun e=>A (congrArg Addr.block e))];exact o2
   have ue:=Q t2;have HB:=Q A;clear ha hT t1 t2 ql A;go_wp2_with fail;have uP:Hid (wr.grownBy ((wr.setCell (U b 1) (H ((S.lc:Int)+1))).setCell (U b ((dJ c).off)) (H ((S.lc:Int)+1))) (some b)):=zU (zU (yR _ _) _ _) _ _;generalize hW4:((wr.setCell (U b 1) (H ((S.lc:Int)+1))).setCell (U b ((dJ c).off)) (H ((S.lc:Int)+1)))=W4 at *;rw[<- e1] at d3;obtain⟨m,hm⟩:∃m,m=S.lc+1:=⟨_,rfl⟩;rw[<- hm] at d3 n0 n1 n2 n3;have hm21:(m:Int)<21:=by omega
   have HM:=Q hm;clear hW4 hm e1 d2 ks hf g1 c0 o0 o1 o2 o3 o4 o5 hlc'
   go_region
   have t3:=Z ue;have t4:=ei t3 (S.lc+1) 0 (by omega) (by omega) (H o.side) { (TS.nd _ (S.lc+1)) with side:=o.side } rfl _ rfl;have t5:=ei t4 (S.lc+1) 1 (by omega) (by omega) (H o.ticks) { (TS.nd _ (S.lc+1)) with ticks:=o.ticks } rfl _ rfl;have t6:=ei t5 (S.lc+1) 2 (by omega) (by omega) (H 0) { (TS.nd _ (S.lc+1)) with qty:=0 } rfl _ rfl;have t7:=ei t6 (S.lc+1) 3 (by omega) (by omega) (H 0) { (TS.nd _ (S.lc+1)) with count:=0 } rfl _ rfl;have qY:=Q (gr_drew (zU (zU (zU (zU (Z uP) (2+m*8) (H o.side)) (2+m*8+1) (H o.ticks)) (2+m*8+2) (H 0)) (2+m*8+3) (H 0)));rw[<- Z HM] at t7;simp only[gB,zr] at t7;have hS:_ = S.grow (dJ c) o.side o.ticks:=grow_eq S (dJ c) o m (Z HM);rw[hS] at t7;have d7:_ = some (H (m:Int)):=t7.lc.trans (by rw[Z HM];rfl);have HT7:=Q t7;clear t3 t4 t5 t6 t7 n0 n1 n2 n3 d3 p1 p2;generalize (((W4.setCell (U b (2+m*8)) (H o.side)).setCell (U b (2+m*8+1)) (H o.ticks)).setCell (U b (2+m*8+2)) (H 0)).setCell (U b (2+m*8+3)) (H 0)=W7 at *;go_wp2_with fail;go_ret;exact⟨m,rfl,_,eH (Z HT7) rfl,(Z bX).2.2.1.trans (((Z HG).but _).trans (Z qY)),.inr ⟨c,u,Z oH,Z HA0,Z HM,rfl⟩⟩
  ·have ham:=way_at (Z oH) rfl ha;have har:=(Z HI).range _ ham;obtain⟨a,hae⟩:∃a,a=S.rd (dJ c):=⟨_,rfl⟩;rw[<- hae] at c0 ha ham har;have HAE:=Q hae;have ha':¬ ((a:Int)=0):=by omega
   have ha21:(a:Int)<21:=by omega
   obtain⟨n0,n1,n2,n3,n4,n5,n6,n7⟩:=zS (hT.nd a (by omega));have HTM:=Q hT;have hpt:∀w',wr.grownBy w' none->Sem.run Tryz.prog (partAt (U b 0) 0 0) w' = .ok (U b 0) w':=fun w' h=>part_s (iI (Z HTM) h (by simp)).obj;have HPT:=Q hpt;have HN1:=Q (fun w' (h:wr.grownBy w' none)=>h.cell n1 (by simp));have pQ:=Q (fun w' (h:wr.grownBy w' none)=>h.cell o2 (by simp));clear hae hT hpt;go_wp2_with fail;go_quiet (fail);go_wp2_with fail;refine iq (W:=wr) (by kernel_rfl) (by kernel_rfl) ⟨rfl,rfl,rfl,Nat.le_refl _,fun _ _ _=>rfl⟩ ?_
   iterate 12 (
    refine eA (v:=?_) ?_ ?_ ?_;rotate_left
    ·rfl
    ·intro w' ur;have f1:=Z HN1 w' ur;have f2:=Z pQ w' ur;have f3:=Z HPT w' ur;go_simp
     try rfl
    intro ho hK;go_simp;refine hK _ ?_;clear hK ho)
   refine eA (v:=.bool (decide (o.ticks<(S.nd a).ticks))) ?_ ?_ ?_
   ·rfl
   ·intro w' ur;have hm:=method_s w';go_simp;refine(better_s _ _ _).mono ?_;rintro e w3 ⟨rfl,uW⟩;exact⟨rfl,ur.trans uW⟩
   intro ho hK;go_simp;refine hK _ ?_;clear hK ho;refine eA (v:=?_) ?_ ?_ ?_;rotate_left
   ·rfl
   ·intro w' ur;go_simp
    try rfl
   intro ho hK;go_simp;refine hK _ ?_;clear hK ho;refine wpQuiet_nil ?_;intro w2 uZ;have ua:=Q uZ;clear uZ
   by_cases D:o.ticks<(S.nd a).ticks
   ·have h1':decide (o.ticks<(S.nd a).ticks)=true:=by simpa using D
    go_wp2_with fail;obtain⟨l,r,rfl,aV⟩:=way_be (Z HI) (Z oH) (Z HAE).symm ha D
    go_roundg (l.hs.length)
    case measure=>have:=Z HK;simp[Tr.hs] at this;omega
    case rel=>exact⟨_,l,rfl,Nat.le_refl _,aV,(Z HG).trans (Z ua)⟩
   ·have h1':decide (o.ticks<(S.nd a).ticks)=false:=by simpa using D
    go_wp2_with fail;refine iq (W:=wr) (by kernel_rfl) (by kernel_rfl) (Z ua) ?_
    iterate 12 (
     refine eA (v:=?_) ?_ ?_ ?_;rotate_left
     ·rfl
     ·intro w' ur;have f1:=Z HN1 w' ur;have f2:=Z pQ w' ur;have f3:=Z HPT w' ur;go_simp
      try rfl
     intro ho hK;go_simp;refine hK _ ?_;clear hK ho)
    refine eA (v:=.bool (decide ((S.nd a).ticks<o.ticks))) ?_ ?_ ?_
    ·rfl
    ·intro w' ur;have hm:=method_s w';go_simp;refine(better_s _ _ _).mono ?_;rintro e w3 ⟨rfl,uW⟩;exact⟨rfl,ur.trans uW⟩
    intro ho hK;go_simp;refine hK _ ?_;clear hK ho;refine eA (v:=?_) ?_ ?_ ?_;rotate_left
    ·rfl
    ·intro w' ur;go_simp
     try rfl
    intro ho hK;go_simp;refine hK _ ?_;clear hK ho;refine wpQuiet_nil ?_;intro w3 uW;have uD:=Q uW;clear uW
    by_cases E:(S.nd a).ticks<o.ticks
    ·have h2':decide ((S.nd a).ticks<o.ticks)=true:=by simpa using E
     go_wp2_with fail;obtain⟨l,r,rfl,aV⟩:=way_wo (Z HI) (Z oH) (Z HAE).symm ha E
     go_roundg (r.hs.length)
     case measure=>have:=Z HK;simp[Tr.hs] at this;omega
     case rel=>exact⟨_,r,rfl,Nat.le_refl _,aV,(Z HG).trans (Z uD)⟩
    ·have h2':decide ((S.nd a).ticks<o.ticks)=false:=by simpa using E
     have c3:=(Z uD).cell c0 (by simp);go_wp2_with fail;go_ret;have hG:=(Z HG).trans (Z uD);exact⟨a,rfl,S,iI (Z bX).2.1 hG (by simp),(Z bX).2.2.1.trans (hG.but _),.inl ⟨ham,by omega,rfl⟩⟩
end Go.Proofs.YtbghmldggahjiaaGreatDoor
