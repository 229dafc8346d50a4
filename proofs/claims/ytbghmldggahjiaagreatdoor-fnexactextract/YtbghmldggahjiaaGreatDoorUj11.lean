/-.-/
import Derived.Test.YtbghmldggahjiaaGreatDoorUj10
set_option linter.unusedVariables false
set_option maxHeartbeats 6400000
set_option maxRecDepth 100000
namespace Go.Proofs.YtbghmldggahjiaaGreatDoor
open Go.RowKit
def insT (s:Bool)(k:Int):List Int->List Int
 | []=>[k]
 | a::r=>if bt s k a then k::a::r else if k=a then a::r else a::insT s k r
theorem insT_mem (s:Bool)(k x:Int):∀T:List Int,x∈insT s k T ↔ x=k\/x∈T
 | []=>by simp[insT]
 | a::r=>by
  rw[insT];split
  ·simp
  ·split
   ·next h=>subst h;simp
   ·simp[insT_mem s k x r];constructor
    ·rintro(h|h|h) <;> simp[h]
    ·rintro(h|h|h) <;> simp[h]
theorem insT_sorted (s:Bool)(k:Int):∀T:List Int,T.Pairwise (bt s)->(insT s k T).Pairwise (bt s)
 | [],_=>by simp[insT]
 | a::r,h=>by
  obtain⟨p1,p2⟩:=List.pairwise_cons.1 h;rw[insT];split
  ·next X=>exact List.pairwise_cons.2 ⟨fun x hx=>by
    rcases List.mem_cons.1 hx with rfl|hx
    ·exact X
    ·exact bt_trans X (p1 x hx),h⟩
  ·next X =>
   split
   ·exact h
   ·next xy =>
    refine List.pairwise_cons.2 ⟨fun x hx=>?_,insT_sorted s k r p2⟩;rcases(insT_mem s k x r).1 hx with rfl|hx
    ·rcases bt_total s x a with D|D|D
     ·exact absurd D X
     ·exact absurd D xy
     ·exact D
    ·exact p1 x hx
def tks (s:Bool):List Od->List Int
 | []=>[]
 | o::r=>insT s o.ticks (tks s r)
theorem gz (s:Bool):∀seq:List Od,IsT s seq (tks s seq)
 | []=>⟨by simp[tks],by simp[tks]⟩
 | o::r=>by
  have ih:=gz s r;refine⟨insT_sorted s _ _ ih.sorted,fun k=>?_⟩;rw[tks,insT_mem,ih.mem];constructor
  ·rintro(rfl|⟨o',D,E⟩)
   ·exact⟨o,by simp,rfl⟩
   ·exact⟨o',by simp[D],E⟩
  ·rintro⟨o',D,E⟩;rcases List.mem_cons.1 D with rfl|D
   ·exact .inl E.symm
   ·exact .inr ⟨o',D,E⟩
theorem lS {s:Bool}:∀ {hb B:List Int},hb.Pairwise (bt s)->B.Pairwise (bt s)->(∀k,k∈hb ↔ k∈B)->hb=B
 | [],B,_,_,h=>by
  cases B with
  | nil=>rfl
  | cons b r=>exact absurd ((h b).2 (by simp)) (by simp)
 | a::hb,[],_,_,h=>absurd ((h a).1 (by simp)) (by simp)
 | a::hb,b::B,hA,hB,h=>by
  obtain⟨p1,p2⟩:=List.pairwise_cons.1 hA;obtain⟨q1,q2⟩:=List.pairwise_cons.1 hB
  have hab:a=b:=by
   rcases List.mem_cons.1 ((h a).1 (by simp)) with e|e
   ·exact e
   ·rcases List.mem_cons.1 ((h b).2 (by simp)) with e'|e'
    ·exact e'.symm
    ·exact absurd (p1 b e') (bt_asymm (q1 a e))
  subst hab;rw[lS p2 q2 fun k=>⟨fun X=>?_,fun X=>?_⟩]
  ·rcases List.mem_cons.1 ((h k).1 (by simp[X])) with e|e
   ·subst e;exact absurd (p1 _ X) (bt_irr _ _)
   ·exact e
  ·rcases List.mem_cons.1 ((h k).2 (by simp[X])) with e|e
   ·subst e;exact absurd (q1 _ X) (bt_irr _ _)
   ·exact e
theorem isT_unique {s:Bool}{seq:List Od}{hb:List Int}(hA:IsT s seq hb):hb=tks s seq:=
 lS hA.sorted (gz s seq).sorted fun k=>(hA.mem k).trans ((gz s seq).mem k).symm
structure Lv where
 side:Int
 ticks:Int
 qty:Int
 count:Int
def Lv.vs (n:Lv):List Value:=[H n.side,H n.ticks,H n.qty,H n.count]
theorem Lv.len (o:Lv):o.vs.length=4:=rfl
def lvAt (sd:Int)(seq:List Od)(k:Int):Lv:=⟨sd,k,sumQ (atK seq k),(atK seq k).length⟩
def dX (s:Bool)(sd:Int)(seq:List Od):List Lv:=(tks s seq).map (lvAt sd seq)
def quOf (s:Bool)(seq:List Od):List Od:=(tks s seq).flatMap (atK seq)
def Nd.lv (n:Nd):Lv:=⟨n.side,n.ticks,n.qty,n.count⟩
theorem lo {s:Bool}{S:TS}{t:Tr}{sd:Int}{seq:List Od}(hi:TI s S t)(hq:QI S t sd seq):(t.hs.map fun h=>(S.nd h).lv)=dX s sd seq:=by
 rw[dX,<- isT_unique (isT_of hi hq),List.map_map];refine List.map_congr_left fun h hh=>?_;have hQ:=hq.q h hh;show Lv.mk _ _ _ _ = Lv.mk _ _ _ _;rw[hQ.side,hQ.qty,hQ.cnt]
theorem tree_orders {s:Bool}{S:TS}{t:Tr}{sd:Int}{seq:List Od}(hi:TI s S t)(hq:QI S t sd seq):(t.hs.flatMap fun h=>(qs seq (S.nd h).ticks).map fun i=>(S.qo i).od)=quOf s seq:=by
 rw[quOf,<- isT_unique (isT_of hi hq),List.flatMap_map];rw[List.flatMap_def,List.flatMap_def];congr 1;refine List.map_congr_left fun h hh=>?_;exact qsF_map _ _ seq 1 (fun i o K=>hq.od i o K)
def zOdv:Value:=.agg (yw 0 0 0 0 0 ⟨#[]⟩).toArray
def frOf (q:List Od):Value:=match q.head? with
 | some o=>.tuple #[o.val,.bool true]
 | none=>.tuple #[zOdv,.bool false]
def betB (n a b:Int):Bool:=decide (a<=n)&&decide (n<=b)
theorem iJ (n a b:Int)(w:World) :
  Calls Tryz.prog 41 #[H n,H a,H b] w fun e w'=>e=ym (.bool (betB n a b))/\w'=w:=by
 go_enter Tryz.func41,Tryz.ntmps41;go_wp2
 all_goals go_ret
 all_goals exact⟨zO (by rw[Bool.eq_iff_iff];simp[betB];omega),rfl⟩
theorem isSide_any (n:Int)(w:World) :
  Calls Tryz.prog 173 #[H n] w fun e w'=>e=ym (.bool (betB n 1 2))/\w'=w:=by
 go_enter Tryz.func173,Tryz.ntmps173;go_wp2
 all_goals go_ret
 all_goals exact⟨zO (by rw[Bool.eq_iff_iff];simp[betB];omega),rfl⟩
theorem isLife_any (n:Int)(w:World) :
  Calls Tryz.prog 175 #[H n] w fun e w'=>e=ym (.bool (betB n 0 1))/\w'=w:=by
 go_enter Tryz.func175,Tryz.ntmps175;go_wp2
 all_goals go_ret
 all_goals exact⟨zO (by rw[Bool.eq_iff_iff];simp[betB];omega),rfl⟩
def tagC (c:UInt8):Bool:=betB c.toNat 32 126
def tagB (s:ByteArray):Bool:=decide (s.size<=12)&&s.data.toList.all tagC
theorem drop_cons (s:ByteArray)(k:Nat)(h:k<s.size):s.data.toList.drop k=s[k]::s.data.toList.drop (k+1):=by
 rw[get_nat s k h];exact xc (by rw[data_len];exact h)
theorem tag_yes (s:ByteArray)(h:s.size<=12)(X:s.data.toList.all tagC=true):tagB s=true:=by simp only[tagB,X,decide_eq_true h,Bool.and_true]
theorem tag_long (s:ByteArray)(h:¬ s.size<=12):tagB s=false:=by simp only[tagB,decide_eq_false h,Bool.false_and]
theorem tag_no (s:ByteArray)(X:s.data.toList.all tagC=false):tagB s=false:=by simp only[tagB,X,Bool.and_false]
theorem isTag_any (s:ByteArray)(w:World)(hs:s.size<=maxLen) :
  Calls Tryz.prog 178 #[yk s] w fun e w'=>e=ym (.bool (tagB s))/\w'=w:=by
 unfold maxLen at hs
 by_cases hl:s.size<=12
 ·have kQ:¬ ((12:Int)<s.size):=by omega
  go_enter Tryz.func178,Tryz.ntmps178;go_wp2_with fail
  go_loop [9] (fun i=>∃k:Nat,k<=s.size/\i=H k/\Hid (s.data.toList.all tagC=(s.data.toList.drop k).all tagC)) (fun i=>s.size-(intOf i).toNat)
  case atStart=>exact⟨0,Nat.zero_le _,rfl,by simp[Hid]⟩
  case round =>
   obtain⟨k,X,rfl,I⟩:=hrel
   by_cases xH:k<s.size
   ·have uq:(k:Int)<s.size:=by omega
    have ko:=drop_cons s k xH;have hgen:∃c,c=s[k]:=⟨_,rfl⟩;obtain⟨c,hc⟩:=hgen
    have hw:betB (wrap64 (s[k].toNat:Int)) 32 126=tagC c:=by
     have hlt256:=UInt8.toNat_lt s[k];rw[hc,show wrap64 (s[k].toNat:Int)=(s[k].toNat:Int) by unfold wrap64;omega];rfl
    cases ht:tagC c
    ·rw[ht] at hw
     have HT:Hid (s.data.toList.all tagC=false):=by
      have:=Z I;rw[ko,List.all_cons,<- hc,ht,Bool.false_and] at this;exact this
     clear ko hc ht;go_wp2_with fail;refine(iJ (wrap64 (s[k].toNat:Int)) 32 126 w).mono ?_;rintro e w1 ⟨rfl,rfl⟩;go_wp2_with fail;go_ret;exact⟨zO (tag_no s (Z HT)).symm,rfl⟩
    ·rw[ht] at hw
     have HN:Hid (s.data.toList.all tagC=(s.data.toList.drop (k+1)).all tagC):=by
      have:=Z I;rw[ko,List.all_cons,<- hc,ht,Bool.true_and] at this;exact this
     clear ko hc ht;go_wp2_with fail;refine(iJ (wrap64 (s[k].toNat:Int)) 32 126 w).mono ?_;rintro e w1 ⟨rfl,rfl⟩;go_wp2_with fail
     go_round
     case rel=>exact⟨k+1,by omega,by go_num,Z HN⟩
     case measure=>simp[intOf];omega
   ·go_wp2_with fail;go_ret;have h:=Z I;rw[xa (by rw[data_len];omega)] at h;exact⟨zO (tag_yes s hl (by rw[h];rfl)).symm,rfl⟩
 ·have kQ:(12:Int)<s.size:=by omega
  go_enter Tryz.func178,Tryz.ntmps178;go_wp2_with fail;go_ret;exact⟨zO (tag_long s hl).symm,rfl⟩
theorem better_b (a c:Int)(w:World) :
  Calls Tryz.prog 245 #[.agg #[],H a,H c] w fun e w'=>e=ym (.bool (decide (c<a)))/\w.grownBy w' none:=by
 go_enter Tryz.func245,Tryz.ntmps245;go_wp2_with fail;go_ret;exact⟨rfl,World.grownBy_alloc _ _ _⟩
theorem method_b (w:World):Sem.run Tryz.prog (method 416 186 (.agg #[]) "loop.example/g00092/impl.better") w = .ok (245,.agg #[]) w:=by kernel_rfl
theorem part_b {w:World}{b:Nat}(h:∃xr,w.heap[b]? = some (.cells xr 249 (0,0))):Sem.run Tryz.prog (partAt (U b 0) 0 0) w = .ok (U b 0) w:=by
 obtain⟨xr,h⟩:=h;have hc:Tryz.prog.cellsOf 249 = 318:=by kernel_rfl
 have hy:byteOfCell Tryz.prog Tryz.prog.depth 249 0=some 0:=by kernel_rfl
 have hs:w.shape? b=some (249,xr.size):=by simp[World.shape?,h]
 simp[partAt,byteOf,noView,viewAt,hs,hc,hy]
theorem levelFor_b (b:Nat)(S:TS)(t:Tr)(o:Od)(w:World)(hT:TM 249 w b S)(hi:TI true S t)(jC:S.lc<20) :
  Calls Tryz.prog 197 #[xj b 0,.agg (yw o.id o.side o.ticks o.left o.life o.tag).toArray] w fun e w' =>
   ∃(h:Nat),e=ym (H h)/\LFEnd true 249 b S t o w h w':=by
 have HT:=Q hT;have HI:=Q hi;clear hT hi;go_enter Tryz.func197,Tryz.ntmps197;go_wp2_with fail
 have HW:Hid (∃W,W=(w.alloc (J (yw o.id o.side o.ticks o.left o.life o.tag).toArray 98))/\W.rangeAt w.heap.size 0 o.vs/\TM 249 W b S/\w.grownBy W (some b)/\w.heap.size<W.heap.size/\b≠w.heap.size):=
  ⟨_,rfl,zo w o.vs _,eH (Z HT) (Below.heap_alloc w _ _ (tm_lt (Z HT))),World.grownBy_alloc _ _ _,by rw[zh];omega,by have:=tm_lt (Z HT);omega⟩
 obtain⟨W,hW,hWW⟩:=Z HW;rw[<- hW];have bX:=Q hWW;clear hW hWW HW HT
 go_loopg [5] (t.hs.length) (fun k p wr=>LFI true b S t o.ticks W k p wr)
 case atStart=>exact⟨[],t,rfl,Nat.le_refl _,way_start (Z HI) _,yR _ _⟩
 case round =>
  obtain⟨c,u,rfl,X,hw,M⟩:=hrel;have oH:=Q hw;have HG:=Q M;have HK:=Q X;have hT:=iI (Z bX).2.1 M (by simp);have c0:=cur_cell hT (dJ c) (cur_ok (Z HI) hw jC);obtain⟨o0,o1,o2,o3,o4,o5⟩:=zM (zA (Z bX).1 M (Z bX).2.2.2.1 (by simp));clear X hw M
  by_cases ha:S.rd (dJ c)=0
  ·have ks:=hT.lc;have hf:=hT.fr;have HA0:=Q ha;rw[ha] at c0;have hlc':(S.lc:Int)<20:=by omega
   have e1:((S.lc+1:Nat):Int)=(S.lc:Int)+1:=by omega
   have ql:=cur_ok (Z HI) (Z oH) jC;have t1:=tm_lc hT (S.lc+1);have t2:=tm_cur t1 (dJ c) ql (S.lc+1);rw[e1] at t1 t2;have d2:_ = _:=(cur_cell t1 (dJ c) ql).trans (congrArg (fun x:Nat=>some (H x)) (show TS.rd _ (dJ c)=0 from by rw[<- ha];cases (dJ c) <;> rfl));have d3:_ = _:=t2.lc;rw[(wr_same _ _ _).1] at d3;simp only[e1] at d3;have g1:=t1.fr;have g2:=t2.fr;obtain⟨n0,n1,n2,n3,-⟩:=zS (t2.nd (S.lc+1) (by omega));have A:b≠w.heap.size:=(Z bX).2.2.2.2
   have p1:((wr.setCell (U b 1) (H ((S.lc:Int)+1))).setCell (U b ((dJ c).off)) (H ((S.lc:Int)+1))).cell? (yq w (0+1))=some (H o.side):=by
    rw[yL _ _ _ _ (fun e=>A (congrArg Addr.block e)),yL _ _ _ _ (fun e=>A (congrArg Addr.block e))];exact o1
   have p2:((wr.setCell (U b 1) (H ((S.lc:Int)+1))).setCell (U b ((dJ c).off)) (H ((S.lc:Int)+1))).cell? (yq w (0+2))=some (H o.ticks):=by
    rw[yL _ _ _ _ (fun e=>A (congrArg Addr.block e)),yL _ _ _ _ (fun e=>A (congrArg Addr.block e))];exact o2
   have ue:=Q t2;have HB:=Q A;clear ha hT t1 t2 ql A;go_wp2_with fail;have uP:Hid (wr.grownBy ((wr.setCell (U b 1) (H ((S.lc:Int)+1))).setCell (U b ((dJ c).off)) (H ((S.lc:Int)+1))) (some b)):=zU (zU (yR _ _) _ _) _ _;generalize hW4:((wr.setCell (U b 1) (H ((S.lc:Int)+1))).setCell (U b ((dJ c).off)) (H ((S.lc:Int)+1)))=W4 at *;rw[<- e1] at d3;obtain⟨m,hm⟩:∃m,m=S.lc+1:=⟨_,rfl⟩;rw[<- hm] at d3 n0 n1 n2 n3;have hm21:(m:Int)<21:=by omega
   have HM:=Q hm;clear hW4 hm e1 d2 ks hf g1 c0 o0 o1 o2 o3 o4 o5 hlc'
   go_region
   have t3:=Z ue;have t4:=ei t3 (S.lc+1) 0 (by omega) (by omega) (H o.side) { (TS.nd _ (S.lc+1)) with side:=o.side } rfl _ rfl;have t5:=ei t4 (S.lc+1) 1 (by omega) (by omega) (H o.ticks) { (TS.nd _ (S.lc+1)) with ticks:=o.ticks } rfl _ rfl;have t6:=ei t5 (S.lc+1) 2 (by omega) (by omega) (H 0) { (TS.nd _ (S.lc+1)) with qty:=0 } rfl _ rfl;have t7:=ei t6 (S.lc+1) 3 (by omega) (by omega) (H 0) { (TS.nd _ (S.lc+1)) with count:=0 } rfl _ rfl;have qY:=Q (gr_drew (zU (zU (zU (zU (Z uP) (2+m*8) (H o.side)) (2+m*8+1) (H o.ticks)) (2+m*8+2) (H 0)) (2+m*8+3) (H 0)));rw[<- Z HM] at t7;simp only[gB,zr] at t7;have hS:_ = S.grow (dJ c) o.side o.ticks:=grow_eq S (dJ c) o m (Z HM);rw[hS] at t7;have d7:_ = some (H (m:Int)):=t7.lc.trans (by rw[Z HM];rfl);have HT7:=Q t7;clear t3 t4 t5 t6 t7 n0 n1 n2 n3 d3 p1 p2;generalize (((W4.setCell (U b (2+m*8)) (H o.side)).setCell (U b (2+m*8+1)) (H o.ticks)).setCell (U b (2+m*8+2)) (H 0)).setCell (U b (2+m*8+3)) (H 0)=W7 at *;go_wp2_with fail;go_ret;exact⟨m,rfl,_,eH (Z HT7) rfl,(Z bX).2.2.1.trans (((Z HG).but _).trans (Z qY)),.inr ⟨c,u,Z oH,Z HA0,Z HM,rfl⟩⟩
  ·have ham:=way_at (Z oH) rfl ha;have har:=(Z HI).range _ ham;obtain⟨a,hae⟩:∃a,a=S.rd (dJ c):=⟨_,rfl⟩;rw[<- hae] at c0 ha ham har;have HAE:=Q hae;have ha':¬ ((a:Int)=0):=by omega
   have ha21:(a:Int)<21:=by omega
   obtain⟨n0,n1,n2,n3,n4,n5,n6,n7⟩:=zS (hT.nd a (by omega));have HTM:=Q hT;have hpt:∀w',wr.grownBy w' none->Sem.run Tryz.prog (partAt (U b 0) 0 0) w' = .ok (U b 0) w':=fun w' h=>part_b (iI (Z HTM) h (by simp)).obj;have HPT:=Q hpt;have HN1:=Q (fun w' (h:wr.grownBy w' none)=>h.cell n1 (by simp));have pQ:=Q (fun w' (h:wr.grownBy w' none)=>h.cell o2 (by simp));clear hae hT hpt;go_wp2_with fail;go_quiet (fail);go_wp2_with fail;refine iq (W:=wr) (by kernel_rfl) (by kernel_rfl) ⟨rfl,rfl,rfl,Nat.le_refl _,fun _ _ _=>rfl⟩ ?_
   iterate 12 (
    refine eA (v:=?_) ?_ ?_ ?_;rotate_left
    ·rfl
    ·intro w' ur;have f1:=Z HN1 w' ur;have f2:=Z pQ w' ur;have f3:=Z HPT w' ur;go_simp
     try rfl
    intro ho hK;go_simp;refine hK _ ?_;clear hK ho)
   refine eA (v:=.bool (decide ((S.nd a).ticks<o.ticks))) ?_ ?_ ?_
   ·rfl
   ·intro w' ur;have hm:=method_b w';go_simp;refine(better_b _ _ _).mono ?_;rintro e w3 ⟨rfl,uW⟩;exact⟨rfl,ur.trans uW⟩
   intro ho hK;go_simp;refine hK _ ?_;clear hK ho;refine eA (v:=?_) ?_ ?_ ?_;rotate_left
   ·rfl
   ·intro w' ur;go_simp
    try rfl
   intro ho hK;go_simp;refine hK _ ?_;clear hK ho;refine wpQuiet_nil ?_;intro w2 uZ;have ua:=Q uZ;clear uZ
   by_cases D:(S.nd a).ticks<o.ticks
   ·have h1':decide ((S.nd a).ticks<o.ticks)=true:=by simpa using D
    go_wp2_with fail;obtain⟨l,r,rfl,aV⟩:=way_be (Z HI) (Z oH) (Z HAE).symm ha D
    go_roundg (l.hs.length)
    case measure=>have:=Z HK;simp[Tr.hs] at this;omega
    case rel=>exact⟨_,l,rfl,Nat.le_refl _,aV,(Z HG).trans (Z ua)⟩
   ·have h1':decide ((S.nd a).ticks<o.ticks)=false:=by simpa using D
    go_wp2_with fail;refine iq (W:=wr) (by kernel_rfl) (by kernel_rfl) (Z ua) ?_
    iterate 12 (
     refine eA (v:=?_) ?_ ?_ ?_;rotate_left
     ·rfl
     ·intro w' ur;have f1:=Z HN1 w' ur;have f2:=Z pQ w' ur;have f3:=Z HPT w' ur;go_simp
      try rfl
     intro ho hK;go_simp;refine hK _ ?_;clear hK ho)
    refine eA (v:=.bool (decide (o.ticks<(S.nd a).ticks))) ?_ ?_ ?_
    ·rfl
    ·intro w' ur;have hm:=method_b w';go_simp;refine(better_b _ _ _).mono ?_;rintro e w3 ⟨rfl,uW⟩;exact⟨rfl,ur.trans uW⟩
    intro ho hK;go_simp;refine hK _ ?_;clear hK ho;refine eA (v:=?_) ?_ ?_ ?_;rotate_left
    ·rfl
    ·intro w' ur;go_simp
     try rfl
    intro ho hK;go_simp;refine hK _ ?_;clear hK ho;refine wpQuiet_nil ?_;intro w3 uW;have uD:=Q uW;clear uW
    by_cases E:o.ticks<(S.nd a).ticks
    ·have h2':decide (o.ticks<(S.nd a).ticks)=true:=by simpa using E
     go_wp2_with fail;obtain⟨l,r,rfl,aV⟩:=way_wo (Z HI) (Z oH) (Z HAE).symm ha E
     go_roundg (r.hs.length)
     case measure=>have:=Z HK;simp[Tr.hs] at this;omega
     case rel=>exact⟨_,r,rfl,Nat.le_refl _,aV,(Z HG).trans (Z uD)⟩
    ·have h2':decide (o.ticks<(S.nd a).ticks)=false:=by simpa using E
     have c3:=(Z uD).cell c0 (by simp);go_wp2_with fail;go_ret;have hG:=(Z HG).trans (Z uD);exact⟨a,rfl,S,iI (Z bX).2.1 hG (by simp),(Z bX).2.2.1.trans (hG.but _),.inl ⟨ham,by omega,rfl⟩⟩
theorem add_b (b:Nat)(sd:Int)(seq:List Od)(o:Od)(w:World)(h:dQ 249 true w b sd seq)(vh:o.side=sd)(hn:seq.length<20)(hl:∀o'∈seq,0<=o'.left/\o'.left<=1000000)(hlo:0<=o.left/\o.left<=1000000) :
  Calls Tryz.prog 159 #[xj b 0,.agg (yw o.id o.side o.ticks o.left o.life o.tag).toArray] w fun e w' =>
   e=ym (.tuple #[])/\dQ 249 true w' b sd (seq ++ [o])/\w.grownBy w' (some b):=by
 obtain⟨S,t,hT,hi,hq,jC⟩:=h;have HI:=Q hi;have HQ:=Q hq;have HT:=Q hT;have HLC:=Q jC;have HL:=Q hl;have bT:=Q vh;have HOC:=Q hq.oc;have hoc':(S.oc:Int)<20:=by have:=hq.oc;omega
 have e1:((S.oc+1:Nat):Int)=(S.oc:Int)+1:=by omega
 have A:b≠w.heap.size:=by have:=tm_lt hT;omega
 have oT:World.rangeAt (w.alloc (J (yw o.id o.side o.ticks o.left o.life o.tag).toArray 98)) w.heap.size 0 o.vs:=zo w o.vs 98;have pV:TM 249 (w.alloc (J (yw o.id o.side o.ticks o.left o.life o.tag).toArray 98)) b S:=eH hT (Below.heap_alloc w _ _ (tm_lt hT));have c1:=pV.oc;have f1:=pV.fr;have hT1:=tm_oc pV (S.oc+1)
 have hR1:Hid (World.rangeAt (World.setCell (w.alloc (J (yw o.id o.side o.ticks o.left o.life o.tag).toArray 98)) (U b 170) (H ((S.oc+1:Nat):Int))) w.heap.size 0 o.vs):=fun j u hu=>by
  rw[yL _ _ _ _ (fun e=>A (congrArg Addr.block e))];exact oT j u hu
 have ao:Hid (w.grownBy (World.setCell (w.alloc (J (yw o.id o.side o.ticks o.left o.life o.tag).toArray 98)) (U b 170) (H ((S.oc+1:Nat):Int))) (some b)):=zU (World.grownBy_alloc w (J (yw o.id o.side o.ticks o.left o.life o.tag).toArray 98) _) _ _;have jE:=Q hT1
 have xI:Hid (w.heap.size<(World.heap (World.setCell (w.alloc (J (yw o.id o.side o.ticks o.left o.life o.tag).toArray 98)) (U b 170) (H ((S.oc+1:Nat):Int)))).size):=(by
  have:=yK _ _ (hR1 0 _ rfl);exact this)
 clear hi hq jC hl vh hT pV oT hT1;go_enter Tryz.func159,Tryz.ntmps159;go_wp2_with fail;rw[<- e1];have em:∃m,m=S.oc+1:=⟨_,rfl⟩;obtain⟨m,hm⟩:=em;rw[<- hm] at hR1 ao jE xI |-;generalize hW1:World.setCell (w.alloc (J (yw o.id o.side o.ticks o.left o.life o.tag).toArray 98)) (U b 170) (H (m:Int))=W1 at hR1 ao jE xI |-;have HM:=Q hm;have hm21:(m:Int)<21:=by omega
 obtain⟨o0,o1,o2,o3,o4,o5⟩:=zM (Z hR1);obtain⟨q0,q1,q2,q3,q4,q5,q6⟩:=iG ((Z jE).qo m (by omega));have f2:=(Z jE).fr;have aO:S.lc<20:=by have:=Z HLC;omega
 have HB:=Q A;clear hW1 hm e1 c1 f1 hoc' A
 go_region
 have ue:=Q (tm_put (Z jE) m (by omega) o);have ua:=Q (gr_put (w:=W1) (b:=b) o m)
 generalize hW2:(((((((W1.setCell (U b (171+m*7)) (H o.id)).setCell (U b (171+m*7+1)) (H o.side)).setCell (U b (171+m*7+2)) (H o.ticks)).setCell (U b (171+m*7+3)) (H o.left)).setCell
   (U b (171+m*7+4)) (H o.life)).setCell (U b (171+m*7+5)) (yk o.tag)).setCell (U b (171+m*7+6)) (H 0))=W2 at ue ua |-
 clear hW2 o0 o1 o2 o3 o4 o5 q0 q1 q2 q3 q4 q5 q6 f2;rw[show({ root:=S.root,lc:=S.lc,oc:=m,nd:=S.nd,qo:=upd S.qo m ⟨o,0⟩ }:TS)=S.lay o from by rw[Z HM];rfl] at ue;have hR2:=Q (zA (Z hR1) (Z ua) (Z xI) (fun e=>Z HB (Option.some.inj e).symm));obtain⟨o0,o1,o2,o3,o4,o5⟩:=zM (Z hR2);have HTI:=Q (ti_lay o (Z HI));have HT2d:Hid (TM 249 W2.drew.drew b (S.lay o)):=eH (Z ue) rfl;go_wp2_with fail
 go_region_with (go_at_call 197;refine(levelFor_b b (S.lay o) t o W2.drew.drew (Z HT2d) (Z HTI) aO).mono ?_;rintro e W3 ⟨h,rfl,uN⟩;have HE:=Q uN;have jY:(h:Int)<21:=lf_lt uN (Z HTI) aO;clear uN)
 obtain⟨S3,hT3,uW,vG⟩:=Z HE;rw[<- Z bT] at HQ;obtain⟨r1,r2,r3,r4,r5,t',r6,r7⟩:=add_ready (Z HI) (Z HQ) vG;have R4:=Q r4;have R6:=Q r6;have R7:=Q r7
 have R23:Hid ((0:Int)<=(S3.nd h).qty/\(S3.nd h).qty<=20000000/\(0:Int)<=(S3.nd h).count/\(S3.nd h).count<=20):=by
  have A:=sumL_bound (atK seq o.ticks) (fun o' qF=>Z HL o' (List.mem_filter.1 qF).1);have uB:(atK seq o.ticks).length<=seq.length:=List.length_filter_le _ _;rw[r2,r3];refine⟨A.1,?_,by omega,by omega⟩;have:=A.2;have h20:((atK seq o.ticks).length:Int)<=20:=by omega
  omega
 have jT:=Q hT3;have uD:Hid (W2.grownBy W3 (some b)):=⟨uW.os,uW.tape,uW.output,uW.size,uW.block⟩;have dh:=Q (zA (Z hR2) (Z uD) (yJ (Z xI) (Z ua).size) (fun e=>Z HB (Option.some.inj e).symm));have hy21:(S3.nd h).yo<21:=by omega
 have cB:m=1+seq.length:=by have:=Z HM;have:=Z HOC;omega
 have jx:=Q cB;clear hT3 uW vG r1 r2 r3 r4 r5 r6 r7 o0 o1 o2 o3 o4 o5 cB HE;have xN:=(Z jT).fr;obtain⟨n0,n1,n2,n3,n4,n5,n6,n7⟩:=zS ((Z jT).nd h (by omega));have qU:h<21:=by omega
 clear n0 n1 n2 n3 n4 n5
 by_cases hy:(S3.nd h).yo=0
 ·have t5:=ei (Z jT) h 6 qU (by omega) (H m) { S3.nd h with el:=m } rfl _ rfl;have t6:=ei t5 h 7 qU (by omega) (H m) { (TS.nd _ h) with yo:=m } rfl _ rfl;simp only[gB,zr] at t6;obtain⟨-,-,-,-,-,-,-,k7⟩:=zS (t5.nd h qU);have f5:=t5.fr;rw[hy] at n7;have vj:=Q (zU (zU (yR W3 (some b)) (2+h*8+6) (H m)) (2+h*8+7) (H m));have ky:=Q t6;clear t5 t6;go_wp2_with fail;generalize hW6:(W3.setCell (U b (2+h*8+6)) (H m)).setCell (U b (2+h*8+7)) (H m)=W6 at vj ky |-;clear jT hW6;have f6:=(Z ky).fr;obtain⟨-,-,m2,m3,-⟩:=zS ((Z ky).nd h qU);simp only[zr] at m2 m3;have hR6:=zA (Z dh) (Z vj) (yJ (Z xI) (yN (Z ua).size (Z uD).size)) (fun e=>Z HB (Option.some.inj e).symm);obtain⟨-,-,-,x3,-⟩:=zM hR6;obtain⟨b1,b2,b3,b4⟩:=Z R23;have t7:=ei (Z ky) h 2 qU (by omega) (H ((S3.nd h).qty+o.left)) { (TS.nd _ h) with qty:=(S3.nd h).qty+o.left } rfl _ rfl;have t8:=ei t7 h 3 qU (by omega) (H ((S3.nd h).count+1)) { (TS.nd _ h) with count:=(S3.nd h).count+1 } rfl _ rfl;obtain⟨-,-,-,y3,-⟩:=zS (t7.nd h qU);have f7:=t7.fr;simp only[gB,zr] at t8 y3;have bV:=Q t8;have kT:=Q (zU (zU (yR W6 (some b)) (2+h*8+2) (H ((S3.nd h).qty+o.left))) (2+h*8+3) (H ((S3.nd h).count+1)));have pw:wrap64 ((S3.nd h).qty+o.left)=(S3.nd h).qty+o.left:=by unfold wrap64;omega
  clear t7 t8 hR6
  go_region
  try simp only[IntKind.wrap_i64]
  try rw[show(IntKind.i64.wrap ((S3.nd h).qty+o.left))=(S3.nd h).qty+o.left from by rw[IntKind.wrap_i64];exact pw]
  generalize hW7:W6.setCell (U b (2+h*8+2)) (H ((S3.nd h).qty+o.left))=W7 at *;go_wp2_with fail;go_end0;have HS8:Hid (_ = S3.link h m o.left):=link_eq0 S3 h m o.left hy;rw[Z HS8] at bV;rw[Z jx] at bV;refine⟨rfl,?_,?_⟩
  ·rw[<- Z bT];refine⟨_,t',eH (Z bV) rfl,Z R6,Z R7,?_⟩;have D:=Z R4;have E:=Z HLC;show S3.lc <= _;simp;omega
  ·exact gg (((((Z ao).trans (Z ua)).trans (Z uD)).trans (Z vj)).trans (Z kT)) rfl rfl rfl rfl
 ·have t5:=tm_qo (Z jT) (S3.nd h).yo 6 hy21 (by omega) (H m) { S3.qo (S3.nd h).yo with yg:=m } rfl _ rfl;have t6:=ei t5 h 7 qU (by omega) (H m) { (TS.nd _ h) with yo:=m } rfl _ rfl;obtain⟨-,-,-,-,-,-,-,k7⟩:=zS (t5.nd h qU);obtain⟨-,-,-,-,-,-,q6⟩:=iG ((Z jT).qo (S3.nd h).yo hy21);have f5:=t5.fr;have hyi:((S3.nd h).yo:Int)<21:=by omega
  have hy0:¬ (((S3.nd h).yo:Int)=0):=by omega
  have vj:=Q (zU (zU (yR W3 (some b)) (171+(S3.nd h).yo*7+6) (H m)) (2+h*8+7) (H m));have ky:=Q t6;clear t5 t6;go_wp2_with fail
  go_region
  go_wp2_with fail;generalize hW6:(W3.setCell (U b (171+(S3.nd h).yo*7+6)) (H m)).setCell (U b (2+h*8+7)) (H m)=W6 at vj ky |-;clear jT hW6;have f6:=(Z ky).fr;obtain⟨-,-,m2,m3,-⟩:=zS ((Z ky).nd h qU);simp only[zr] at m2 m3;have hR6:=zA (Z dh) (Z vj) (yJ (Z xI) (yN (Z ua).size (Z uD).size)) (fun e=>Z HB (Option.some.inj e).symm);obtain⟨-,-,-,x3,-⟩:=zM hR6;obtain⟨b1,b2,b3,b4⟩:=Z R23;have t7:=ei (Z ky) h 2 qU (by omega) (H ((S3.nd h).qty+o.left)) { (TS.nd _ h) with qty:=(S3.nd h).qty+o.left } rfl _ rfl;have t8:=ei t7 h 3 qU (by omega) (H ((S3.nd h).count+1)) { (TS.nd _ h) with count:=(S3.nd h).count+1 } rfl _ rfl;obtain⟨-,-,-,y3,-⟩:=zS (t7.nd h qU);have f7:=t7.fr;simp only[gB,zr] at t8 y3;have bV:=Q t8;have kT:=Q (zU (zU (yR W6 (some b)) (2+h*8+2) (H ((S3.nd h).qty+o.left))) (2+h*8+3) (H ((S3.nd h).count+1)));have pw:wrap64 ((S3.nd h).qty+o.left)=(S3.nd h).qty+o.left:=by unfold wrap64;omega
  clear t7 t8 hR6
  go_region
  try simp only[IntKind.wrap_i64]
  try rw[show(IntKind.i64.wrap ((S3.nd h).qty+o.left))=(S3.nd h).qty+o.left from by rw[IntKind.wrap_i64];exact pw]
  generalize hW7:W6.setCell (U b (2+h*8+2)) (H ((S3.nd h).qty+o.left))=W7 at *;go_wp2_with fail;go_end0;have HS8:Hid (_ = S3.link h m o.left):=link_eq1 S3 h m o.left hy;rw[Z HS8] at bV;rw[Z jx] at bV;refine⟨rfl,?_,?_⟩
  ·rw[<- Z bT];refine⟨_,t',eH (Z bV) rfl,Z R6,Z R7,?_⟩;have D:=Z R4;have E:=Z HLC;show S3.lc <= _;simp;omega
  ·exact gg (((((Z ao).trans (Z ua)).trans (Z uD)).trans (Z vj)).trans (Z kT)) rfl rfl rfl rfl
end Go.Proofs.YtbghmldggahjiaaGreatDoor
