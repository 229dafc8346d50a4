/-.-/
import Derived.Test.YtkofhemdefffpaaGreatDoorPq20
import Derived.Test.YtkofhemdefffpaaGreatDoorPq42
import Derived.Test.YtkofhemdefffpaaGreatDoorPq44
set_option linter.unusedVariables false
set_option maxHeartbeats 6400000
set_option maxRecDepth 100000
namespace Go.Proofs.YtkofhemdefffpaaGreatDoor
open Go.RowKit
def tpE (cs:List Cm)(k:Nat):List Ev:=stE (runS (cs.take k)).n (runS (cs.take k)).l (cs.getD k zCm)
def tpS (cs:List Cm):Nat->Int
 | 0=>sumL [84,74,49] 1
 | k+1=>frS 71 (payE (tpE cs k)) (tpS cs k)
def tpB (cs:List Cm):Nat->List Int
 | 0=>[84,74,49]
 | k+1=>tpB cs k++frL 71 (payE (tpE cs k)) (tpS cs k)
def dN (cs:List Cm):List Int:=tpB cs cs.length++frL 69 (pay (ttJ cs).ns) (tpS cs cs.length)
theorem tpB_pre (cs:List Cm)(k:Nat):∀j,∃r,tpB cs (k+j)=tpB cs k++r
 | 0=>⟨[],by simp⟩
 | j+1=>by
  obtain⟨r,h⟩:=tpB_pre cs k j;exact⟨r++frL 71 (payE (tpE cs (k+j))) (tpS cs (k+j)),by rw[<- Nat.add_assoc,tpB,h];simp⟩
theorem stE_few {n:Int}{l:List Od}{c:Cm}(F:GoodL l):(stE n l c).length<=24:=by
 have hl:=F.len;rw[stE];split
 ·split
  ·have Z:=matL_few (c:=c) (id:=n) 21 l c.q [];rw[accE];simp only[yQ,List.length_cons,List.length_nil] at Z |-;split <;> simp <;> omega
  ·split
   ·split <;> simp
   ·split
    ·simp
    ·have Z:(l.filter dyB).length<=20:=yO (List.length_filter_le _ _) hl;simp only[List.length_cons,List.length_map];omega
 ·simp
theorem pay_at (a r p:List Int)(m s:Int):((a++(frL m p s++r)).drop (a.length+1+(putU (zz p.length)).length)).take (a.length+1+(putU (zz p.length)).length+p.length-(a.length+1+(putU (zz p.length)).length))=p:=by
 have e1:a++(frL m p s++r)=(a++(m::putU (zz p.length)))++(p++(frS m p s / 256::frS m p s % 256::r)):=by simp[frL,frH]
 have e2:a.length+1+(putU (zz p.length)).length=(a++(m::putU (zz p.length))).length:=by simp;omega
 rw[e1,e2,List.drop_left];exact List.take_left' (by omega)
def SameB (ds cs:List Cm)(k:Nat):Prop:=ds.length=k/\∀i,i<=k->(runS (ds.take i)).n=(runS (cs.take i)).n/\(runS (ds.take i)).l=(runS (cs.take i)).l/\(runS (ds.take i)).t=(runS (cs.take i)).t
theorem jd_k (cs:List Cm)(h27:cs.length<=199)(hf:∀c∈cs,CmFit c)(hB:∀k,k<=cs.length->OkB (runS (cs.take k)).n (runS (cs.take k)).l):∀k,k<=cs.length->∃ds,SameB ds cs k/\jdK (dN cs) 3 (sumL [84,74,49] 1) []=jdK (dN cs) (tpB cs k).length (tpS cs k) ds
 | 0,_=>⟨[],⟨rfl,fun i hi=>by cases Nat.le_zero.1 hi;simp⟩,rfl⟩
 | k+1,E=>by
  obtain⟨ds,⟨hl,hd⟩,hj⟩:=jd_k cs h27 hf hB k (by omega);obtain⟨Z,Q,I⟩:=hd k yb;have ht:ds.take k=ds:=xa (by omega);rw[ht] at Z Q I;have uA:=hB k (by omega);have hc:cs[k]? = some (cs.getD k zCm):=by rw[List.getD_eq_getElem?_getD,yI (by omega)];rfl
  obtain⟨d,g1,g2,g3,g4⟩:=grp_n (c:=cs.getD k zCm) uA (hf _ (yP hc)) Z Q;obtain⟨r,hr⟩:=tpB_pre cs (k+1) (cs.length-(k+1));rw[show k+1+(cs.length-(k+1))=cs.length by omega] at hr
  have hL:dN cs=tpB cs k++(frL 71 (payE (tpE cs k)) (tpS cs k)++(r++frL 69 (pay (ttJ cs).ns) (tpS cs cs.length))):=by
   rw[dN,hr,tpB];simp
  have hp:(payE (tpE cs k)).length<=8192:=by
   have a1:=payE_len (tpE cs k) (stE_fit uA (hf _ (yP hc)));have a2:(tpE cs k).length<=24:=stE_few (gC uA);omega
  have je:=fr_at (tpB cs k) (r++frL 69 (pay (ttJ cs).ns) (tpS cs cs.length)) (payE (tpE cs k)) 71 (tpS cs k) (.inl rfl) hp;have hpa:=pay_at (tpB cs k) (r++frL 69 (pay (ttJ cs).ns) (tpS cs cs.length)) (payE (tpE cs k)) 71 (tpS cs k);rw[<- hL] at je hpa;refine⟨ds ++ [d],⟨by simp[hl],fun i hi=>?_⟩,?_⟩
  ·by_cases hik:i<=k
   ·rw[List.take_append_of_le_length (by omega)];exact hd i hik
   ·obtain rfl:i=k+1:=by omega
    rw[xa (by simp[hl]),run_snoc,ig cs hc];simp only[rstep,Z,Q,I];exact⟨g2,g3,wg_eq _ g4⟩
  ·rw[hj,jdK_go je (by omega) (by rw[hpa];exact g1)];congr 1;rw[tpB,yQ,frL,yQ,frH];simp;omega
theorem jd_tape (cs:List Cm)(h27:cs.length<=199)(hf:∀c∈cs,CmFit c)(hB:∀k,k<=cs.length->OkB (runS (cs.take k)).n (runS (cs.take k)).l)(hT:(ttJ cs).ok):∃ds,SameB ds cs cs.length/\judJ (dN cs)=(ds,0,0):=by
 obtain⟨ds,hs,hj⟩:=jd_k cs h27 hf hB cs.length yb;refine⟨ds,hs,?_⟩;obtain⟨Z,Q,I⟩:=hs.2 cs.length yb;rw[xa (by rw[hs.1];omega),xa (by omega)] at Z Q I;have htt:ttJ ds=ttJ cs:=by rw[ttJ,ttJ,Q,I]
 have hp:(pay (ttJ cs).ns).length<=8192:=by
  have:=eZ (ttJ cs).ns hT;have h8:(ttJ cs).ns.length=8:=rfl;omega
 have hL:dN cs=tpB cs cs.length++(frL 69 (pay (ttJ cs).ns) (tpS cs cs.length) ++ []):=by rw[dN];simp
 have je:=fr_at (tpB cs cs.length) [] (pay (ttJ cs).ns) 69 (tpS cs cs.length) (.inr rfl) hp;have hpa:=pay_at (tpB cs cs.length) [] (pay (ttJ cs).ns) 69 (tpS cs cs.length);rw[<- hL] at je hpa
 have h3':(dN cs).take 3 = [84,74,49]:=by
  obtain⟨r,hr⟩:=tpB_pre cs 0 cs.length;rw[Nat.zero_add] at hr;rw[dN,hr,tpB];rfl
 rw[judJ,if_pos h3',hj,jdK_end je,endJ,hpa,htt,if_neg (fun h=>h rfl),if_neg];rw[hL,yQ,List.append_nil,frL,yQ,frH];simp;omega
theorem num_len {e:Ev}(h:e.fit)(o:Nat):(putU (zz (e.num o))).length<=10:=zH _ (dy _ (h.n o).1 (h.n o).2)
theorem evL_small {e:Ev}(h:e.fit)(E:3<=e.kind/\e.kind<=9):(evL e).length<=41:=by
 have h9:=num_len h 9;have vj:=num_len h 10;have jS:=num_len h 11;have qP:=num_len h 12;rcases(show e.kind=3\/e.kind=4\/e.kind=5\/e.kind=6\/e.kind=7\/e.kind=8\/e.kind=9 by omega) with E|E|E|E|E|E|E
 all_goals
  simp[evL,E,shF,wrF];omega
theorem payE_tail:∀(es:List Ev),(∀e∈es,e.fit/\3<=e.kind/\e.kind<=9)->(payE es).length<=41*es.length
 | [],_=>by simp[payE]
 | e::r,h=>by
  have Z:=evL_small (h e (by simp)).1 (h e (by simp)).2;have Q:=payE_tail r (fun x hx=>h x (by simp[hx]));have ep:payE (e::r)=evL e++payE r:=by simp[payE]
  rw[ep,yQ,List.length_cons];omega
theorem pay_small {n:Int}{l:List Od}{c:Cm}(hB:OkB n l)(hc:CmFit c):(payE (stE n l c)).length<=1200:=by
 have F:=gC hB;obtain⟨e,es,he,-⟩:=told_one (n:=n) c F;have hf:=stE_fit (n:=n) hB hc;have ht:=tail_kinds (n:=n) (c:=c) F;have D:=gov_ok (iJ (n:=n) (c:=c) F);have hl:=stE_few (n:=n) (c:=c) F;rw[he] at hf ht D hl |-;have Z:=(im e (hf e (by simp))).2
 have Q:=payE_tail es (fun x hx=>by
  have a1:=ht x (by simpa using hx);have a2:=fh (D x (by simp[hx]));exact⟨hf x (by simp[hx]),by omega,a2.2⟩)
 have ep:payE (e::es)=evL e++payE es:=by simp[payE]
 rw[ep,yQ];simp only[List.length_cons] at hl;omega
theorem frL_len (m s:Int)(p:List Int)(h:p.length<=8192):(frL m p s).length<=p.length+13:=by
 have:=zH (zz p.length) (dy _ (by omega) (by omega));rw[frL,frH];simp;omega
theorem tpB_len (cs:List Cm)(hf:∀c∈cs,CmFit c)(hB:∀k,k<=cs.length->OkB (runS (cs.take k)).n (runS (cs.take k)).l):∀k,k<=cs.length->(tpB cs k).length<=3+1213*k
 | 0,_=>by simp[tpB]
 | k+1,E=>by
  have Z:=tpB_len cs hf hB k (by omega);have hc:cs[k]? = some (cs.getD k zCm):=by rw[List.getD_eq_getElem?_getD,yI (by omega)];rfl
  have Q:(payE (tpE cs k)).length<=1200:=pay_small (hB k (by omega)) (hf _ (yP hc));have I:=frL_len 71 (tpS cs k) (payE (tpE cs k)) (by omega);rw[tpB,yQ];omega
theorem tape_len (cs:List Cm)(hl:cs.length<=27)(hf:∀c∈cs,CmFit c)(hB:∀k,k<=cs.length->OkB (runS (cs.take k)).n (runS (cs.take k)).l)(hT:(ttJ cs).ok):(dN cs).length<=65536:=by
 have Z:=tpB_len cs hf hB cs.length yb;have Q:=eZ (ttJ cs).ns hT;have h8:(ttJ cs).ns.length=8:=rfl;have I:=frL_len 69 (tpS cs cs.length) (pay (ttJ cs).ns) (by omega);rw[dN,yQ];omega
theorem pk_same {ds cs:List Cm}(h:SameB ds cs cs.length):pkO ds=pkO cs/\pkL ds=pkL cs:=by
 obtain⟨Z,Q⟩:=h;unfold pkO pkL;rw[Z];refine⟨lk _ _ fun a ha m=>?_,lk _ _ fun a ha m=>?_⟩
 all_goals
  have:=List.mem_range.1 ha;rw[(Q (a+1) (by omega)).2.1]
theorem fmax_le {f:Nat->Nat}{b:Nat}:∀(l:List Nat) (m:Nat),m<=b->(∀i∈l,f i<=b)->l.foldl (fun m i=>max m (f i)) m<=b
 | [],m,h,_=>h
 | a::l,m,h,hf=>fmax_le l _ (show max m (f a)<=b by have:=hf a (by simp);omega) (fun i hi=>hf i (by simp[hi]))
theorem fmax_mono {f g:Nat->Nat}:∀(l:List Nat) (m k:Nat),m<=k->(∀i∈l,f i<=g i)->l.foldl (fun m i=>max m (f i)) m<=l.foldl (fun m i=>max m (g i)) k
 | [],m,k,h,_=>h
 | a::l,m,k,h,hf=>fmax_mono l _ _ (show max m (f a)<=max k (g a) by have:=hf a (by simp);omega) (fun i hi=>hf i (by simp[hi]))
theorem fmax_pos {f g:Nat->Nat}(hfg:∀i,0<g i->0<f i):∀(l:List Nat) (m k:Nat),(0<k->0<m)->0<l.foldl (fun m i=>max m (g i)) k->0<l.foldl (fun m i=>max m (f i)) m
 | [],m,k,h,Q=>h Q
 | a::l,m,k,h,Q=>fmax_pos hfg l (max m (f a)) (max k (g a)) (fun I=>by
   have:=hfg a;rcases Nat.lt_or_ge 0 k with h4|h4
   ·have:=h h4;omega
   ·have:0<g a:=by omega
    have:=hfg a this;omega) Q
theorem nlevR_pos:∀(l:List Od),l ≠ []->0<nlevR l
 | [],h=>absurd rfl h
 | [x],_=>by simp[nlevR]
 | x::y::r,_=>by
  have:=nlevR_pos (y::r) (by simp);rw[nlevR];omega
theorem nlev_pos {l:List Od}(h:0<l.length):0<nlev l:=nlevR_pos _ (by intro h0;rw[List.reverse_eq_nil_iff] at h0;rw[h0] at h;simp at h)
theorem pk_le (cs:List Cm)(hB:∀k,k<=cs.length->OkB (runS (cs.take k)).n (runS (cs.take k)).l):pkO cs<=20/\pkL cs<=8/\pkL cs<=pkO cs/\(0<pkL cs ↔ 0<pkO cs):=by
 refine⟨fmax_le _ _ (by omega) fun i hi=>?_,fmax_le _ _ (by omega) fun i hi=>?_,fmax_mono _ _ _ yb fun i _=>nlev_le _,⟨fun h=>?_,fun h=>?_⟩⟩
 ·have:=List.mem_range.1 hi;exact(hB (i+1) (by omega)).len
 ·have:=List.mem_range.1 hi;exact(hB (i+1) (by omega)).lev
 ·exact yK h (fmax_mono _ _ _ yb fun i _=>nlev_le _)
 ·exact fmax_pos (fun i hi=>nlev_pos hi) _ _ _ (fun h=>h) h
theorem pk_script (cs:List Cm)(hl:cs.length<=27)(hd:∀c∈cs,DrOk c/\DrIn c)(hT:(ttJ cs).ok):(dN cs).length<=65536/\(∃ds,judJ (dN cs)=(ds,0,0)/\pkO ds=pkO cs/\pkL ds=pkL cs)/\pkO cs<=20/\pkL cs<=8/\pkL cs<=pkO cs/\(0<pkL cs ↔ 0<pkO cs):=by
 have hf:∀c∈cs,CmFit c:=fun c hc=>drIn_fit (hd c hc).1 (hd c hc).2;have hB:=okB_run cs (fun c hc=>(hd c hc).1.2);obtain⟨ds,Z,Q⟩:=jd_tape cs (by omega) hf hB hT;obtain⟨I,h4⟩:=pk_same Z;exact⟨tape_len cs hl hf hB hT,⟨ds,Q,I,h4⟩,pk_le cs hB⟩
theorem run_g (cs:List Cm):∀k,k<=cs.length->(runS (cs.take k)).g.length=k/\∀i,i<k->(runS (cs.take k)).g[i]? = some (tpE cs i)
 | 0,_=>⟨by simp[runS],fun i hi=>absurd hi (by omega)⟩
 | k+1,E=>by
  obtain⟨Z,Q⟩:=run_g cs k (by omega);have hc:cs[k]? = some (cs.getD k zCm):=by rw[List.getD_eq_getElem?_getD,yI (by omega)];rfl
  rw[ig cs hc];refine⟨by simp[rstep,Z],fun i hi=>?_⟩
  by_cases hik:i<k
  ·show((runS (cs.take k)).g ++ [_])[i]? = _;rw[List.getElem?_append_left (by omega)];exact Q i hik
  ·obtain rfl:i=k:=by omega
   show((runS (cs.take i)).g ++ [_])[i]? = _;rw[List.getElem?_append_right (by omega),Z,Nat.sub_self];rfl
theorem rsF_g (cs:List Cm)(h:cs.length<=200):(rsF cs).g.length=cs.length/\∀i,i<cs.length->(rsF cs).g[i]? = some (tpE cs i):=by
 have:=run_g cs cs.length yb;rw[xa yb] at this;rw[rsF,if_pos h];exact this
theorem tpS_bd (cs:List Cm):∀k,0<=tpS cs k/\tpS cs k<65521
 | 0=>gF _ _ (by decide) (by decide)
 | k+1=>gF _ _ (tpS_bd cs k).1 (tpS_bd cs k).2
def TpOk (cs:List Cm):Prop:=cs.length<=27/\(∀k,k<cs.length->(∀e∈tpE cs k,e.fit)/\(∀e∈tpE cs k,1<=e.kind/\e.kind<=9)/\(tpE cs k).length<=24/\(payE (tpE cs k)).length<=1200)/\(∀k,k<=cs.length->(tpB cs k).length<=65536)/\(dN cs).length<=65536/\Bts (dN cs)
theorem frL_bts {m s:Int}{p:List Int}(hm:0<=m/\m<=255)(hp:Bts p)(h0:0<=s)(Z:s<65521):Bts (frL m p s):=by
 intro x hx;have K:0<=frS m p s/\frS m p s<65521:=gF _ _ h0 Z;rw[frL,List.mem_append] at hx;rcases hx with hx|hx
 ·exact frH_bts hm hp x hx
 ·simp only[List.mem_cons,List.not_mem_nil,or_false] at hx;rcases hx with rfl|rfl <;> omega
theorem tpB_bts (cs:List Cm)(h:∀k,k<cs.length->∀e∈tpE cs k,1<=e.kind/\e.kind<=9):∀k,k<=cs.length->Bts (tpB cs k)
 | 0,_=>fun x hx=>by simp[tpB] at hx;omega
 | k+1,E=>by
  intro x hx;rw[tpB,List.mem_append] at hx;rcases hx with hx|hx
  ·exact tpB_bts cs h k (by omega) x hx
  ·exact frL_bts (by omega) (payE_bts _ (h k (by omega))) (tpS_bd cs k).1 (tpS_bd cs k).2 x hx
theorem tpOk_of (cs:List Cm)(hl:cs.length<=27)(hf:∀c∈cs,CmFit c)(hB:∀k,k<=cs.length->OkB (runS (cs.take k)).n (runS (cs.take k)).l):TpOk cs:=by
 have h9:∀k,k<cs.length->∀e∈tpE cs k,1<=e.kind/\e.kind<=9:=fun k E e he=>fh (gov_ok (iJ (gC (hB k (by omega)))) e he);refine⟨hl,fun k E=>?_,fun k E=>?_,tape_len cs hl hf hB (ttJ_ok cs),fun x hx=>?_⟩
 ·have hc:cs[k]? = some (cs.getD k zCm):=by rw[List.getD_eq_getElem?_getD,yI E];rfl
  have uA:=hB k (by omega);have hfc:=hf _ (yP hc);exact⟨stE_fit uA hfc,h9 k E,stE_few (gC uA),pay_small uA hfc⟩
 ·have:=tpB_len cs hf hB k E;omega
 ·rw[dN,List.mem_append] at hx;rcases hx with hx|hx
  ·exact tpB_bts cs h9 _ yb x hx
  ·exact frL_bts (by omega) (pay_bts _) (tpS_bd cs _).1 (tpS_bd cs _).2 x hx
theorem headB (w:World):BRow (w.alloc (me #[.int .u8 84,.int .u8 74,.int .u8 49] 5)) w.heap.size (.slice (some (yr w 0)) 3 3) [84,74,49]:=⟨rfl,.inr ⟨w.heap.size,3,_,rfl,Nat.le_refl _,heap_alloc_new w _,Nat.le_refl _,by decide,rfl,rfl⟩⟩
theorem l06HeadB_any (w:World):Calls Tryz.prog 18 #[] w fun e w'=>∃v,e=yn v/\BRow w' w.heap.size v [84,74,49]/\yp w w':=by
 have HB:Hid (yp w (w.alloc (me #[.int .u8 84,.int .u8 74,.int .u8 49] 5))):=mc _ _;have HR:=U (headB w);go_enter Tryz.func18,Tryz.ntmps18;go_wp2_with fail;refine bodyPost_ret (by simp[results,Tryz.results18,go_sem];try rfl) rfl ?_;exact⟨_,rfl,O HR,O HB⟩
theorem run_tape (v:Value)(cs:List Cm)(w:World)(hr:RdR Cm.vs 8 w v cs)(aJ:∀c∈cs,c.g.size<=maxLen)(E:TpOk cs) :
  Calls Tryz.prog 17 #[v] w fun e w'=>∃gv vq,e=yn (.agg #[gv,H (rsF cs).n,vq,H (ttJ cs).a,H (ttJ cs).b,H (ttJ cs).c,H (ttJ cs).d,H (ttJ cs).e,H (ttJ cs).f,H (ttJ cs).g,H (ttJ cs).h])/\RdG w' gv (rsF cs).g/\ORow w' w.heap.size vq (rsF cs).l/\yp w w':=by
 have hl:cs.length<=200:=by have:=E.1;omega
 have F:=rsF_g cs hl;have ht:(rsF cs).t=wbT (runS cs).t (runS cs).l:=by rw[rsF,if_pos hl]
 refine(l04Run_any v cs w hr aJ hl).mono ?_;rintro e w' ⟨gv,vq,rfl,⟨gs,Z,Q,I⟩,h4,h5⟩;refine⟨gv,vq,by rw[ht];rfl,grs_rd Z Q I (by have:=E.1;omega) (fun es oH=>?_),h4,h5⟩;obtain⟨i,hi,rfl⟩:=List.mem_iff_getElem.1 oH;have h6:=F.2 i (by omega);rw[yI hi] at h6;rw[Option.some.inj h6];have:=(E.2.1 i (by omega)).2.2.1;omega
theorem l06Tape_any (v:Value)(cs:List Cm)(w:World)(hr:RdR Cm.vs 8 w v cs)(aJ:∀c∈cs,c.g.size<=maxLen)(E:TpOk cs) :
  Calls Tryz.prog 10 #[v] w fun e w'=>∃v',e=yn v'/\BRow w' w.heap.size v' (dN cs)/\yp w w':=by
 obtain⟨i0,uo,ub,xX,uh⟩:=info_parts Tryz.infoByte;have HRUN:=U (run_tape v cs w hr aJ E);have HG:=U (rsF_g cs (by have:=E.1;omega));obtain⟨h27,hE,hBl,hTl,-⟩:=E;have HE:=U hE;have HBL:=U hBl;have HTL:Hid (dN cs=tpB cs cs.length++frL 69 (pay (ttJ cs).ns) (tpS cs cs.length)):=rfl;have hTl':(tpB cs cs.length).length+(frL 69 (pay (ttJ cs).ns) (tpS cs cs.length)).length<=65536:=by rw[<- yQ];exact hTl
 have kU:Hid ((pay (ttJ cs).ns).length<=8192):=by
  show _ <= _;have:=eZ (ttJ cs).ns (ttJ_ok cs);have h8:(ttJ cs).ns.length=8:=rfl;omega
 have qi:=U (fun V=>l06End_any (ttJ cs) (ttJ_ok cs) V);obtain⟨a,cap,rfl,-⟩:=hr;clear aJ hE hBl hTl;generalize ttJ cs=T at HRUN HTL kU qi hTl';generalize dN cs=TL at HTL |-;generalize (rsF cs).g=gs at HRUN HG;generalize (rsF cs).l=rl at HRUN;generalize (rsF cs).n=rn at HRUN;go_enter Tryz.func10,Tryz.ntmps10;go_wp2_with fail;refine(O HRUN).mono ?_;rintro e w1 ⟨gv,vq,rfl,hgv,hvq,ud⟩;obtain⟨qa,qc,rfl⟩:=et hvq;obtain⟨ga,gc,hge,-⟩:=id hgv;rw[(O HG).1] at hge;subst hge;obtain⟨oz,HX⟩:=mh w1 [.slice ga cs.length gc,H rn,.slice qa rl.length qc,H T.a,H T.b,H T.c,H T.d,H T.e,H T.f,H T.g,H T.h] 58;have xz:=U (mf ud oz);have HGV:=U (rdG_below hgv oz yb);have ug:w1.heap.size<(w1.alloc (me #[.slice ga cs.length gc,H rn,.slice qa rl.length qc,H T.a,H T.b,H T.c,H T.d,H T.e,H T.f,H T.g,H T.h] 58)).heap.size:=by simp
 clear hgv hvq ud oz HRUN;go_wp2_with fail;generalize (w1.alloc (me #[.slice ga cs.length gc,H rn,.slice qa rl.length qc,H T.a,H T.b,H T.c,H T.d,H T.e,H T.f,H T.g,H T.h] 58))=W2 at xz HGV HX ug |-;generalize w1.heap.size=b3 at HX ug |-;refine(l06HeadB_any W2).mono ?_;rintro e W3 ⟨v3,rfl,oK,xV⟩;obtain⟨a3,c3,rfl⟩:=lh oK;have qO:=U oK;have xL:=U xV;clear oK xV;go_wp2_with fail;refine(l01Sum_any _ [84,74,49] 1 W3 (il (O qO) (by decide)) head_bts (by decide) (by decide)).mono ?_;rintro e W4 ⟨rfl,rfl⟩;have HS0:Hid (sumL [84,74,49] 1=tpS cs 0):=rfl;generalize sumL [84,74,49] 1=s0 at HS0 |-;go_wp2_with fail;go_loopw [4,5,6] (fun ov sv iv wr=>∃k:Nat,k<=cs.length/\iv=H k/\sv=H (tpS cs k)/\Hid (BRow wr W2.heap.size ov (tpB cs k)/\yp W2 wr)) (fun _ _ iv _=>cs.length-(intOf iv).toNat)
 case atStart=>exact⟨0,Nat.zero_le _,rfl,by rw[O HS0],O qO,O xL⟩
 case round =>
  obtain⟨k,E,rfl,rfl,ue⟩:=hrel;have vv:=U (O ue).1;have HB:=U (O ue).2;obtain⟨ao,co,rfl⟩:=lh (O vv);have uG:=U (zl (O HX) (O HB) ug);have x0:=J (O uG) 0 rfl;have uF:=tpS_bd cs k;clear ue
  by_cases xK:k<cs.length
  ·have ux:(k:Int)<cs.length:=by omega
   have hge:=(O HG).2 k xK
   obtain⟨gb,go,hga,hgb,hgc⟩:∃gb go,ga=some (Y gb go)/\gb<W2.heap.size/\∃g,W2.cell? (Y gb (go+k))=some g/\RdR Ev.vs 14 W2 g (tpE cs k):=by
    obtain⟨a1,c1,e1,-,Z⟩:=O HGV;simp only[Value.slice.injEq] at e1;obtain⟨b,off,Q,ah,I⟩:=Z (by intro h;rw[h] at hge;simp at hge);exact⟨b,off,e1.1.trans Q,ah,I k _ hge⟩
   obtain⟨g,hgc1,uN⟩:=hgc;subst hga;have x1:=((O HB).cell (p:=(Y gb (go+k))) hgb).trans hgc1;have vu:=U (zq uN (O HB) yb);obtain⟨ra,rc,rfl,-⟩:=id uN;obtain⟨hf,h9,h24,hpay⟩:=O HE k xK;have hbn:=O HBL (k+1) (by omega);rw[tpB,yQ] at hbn;have HPY:=U (l06Payload_any _ (tpE cs k) wr (O vu) hf h9 (by omega));have HPBT:=U (payE_bts _ h9);have cJ:Hid (tpS cs (k+1)=frS 71 (payE (tpE cs k)) (tpS cs k)):=rfl;have HN2:Hid (tpB cs (k+1)=tpB cs k++frL 71 (payE (tpE cs k)) (tpS cs k)):=rfl;clear uN hgc1 hf h9 hge;generalize hpe:payE (tpE cs k)=P at HPY HPBT cJ HN2 hpay hbn;clear hpe;generalize tpE cs k=ek at HPY x1 h24;generalize tpS cs k=sk at cJ HN2 hbn uF |-;generalize tpB cs k=bk at HN2 vv x0 hbn |-;go_wp2_with fail;refine(O HPY).mono ?_;rintro e W5 ⟨v5,rfl,ho5,uj⟩;have pu:=U ho5;have HR5:=U (zQ (O vv) uj);have uY:=U (mf (O HB) uj);clear ho5 uj x0 x1;go_wp2_with fail;refine(l06FrameG_any 71 (by decide) v5 P sk wr.heap.size W5 (O pu) (by omega) (O HPBT) uF.1 uF.2).mono ?_;rintro e W6 ⟨v6,rfl,kO,vU⟩;have HO6:=U kO;have HR6:=U (zQ (O HR5) vU);have qS:=U (mf (O uY) vU);have qj:=U (il kO (by omega));have HNL:=U (bRow_nil kO);clear kO vU HR5 uY vv HB;generalize frL 71 P sk=FL at HN2 qj hbn HO6;generalize frS 71 P sk=FS at cJ |-;go_wp2_with (at_builtin;go_must (refine lF _ rfl _ _ 22 rfl W2.heap.size 5 i0 Tryz.underlying22 uo ub xX uh (.slice ao bk.length co) _ _ rfl (O HR6) v6 FL rfl (O qj) (O HNL) (by omega) (O qS).size ?_);intro v7 W7 xu F;have vD:=U xu;have HGRW:=U F;clear xu F)
   have qI:Hid (BRow W7 W2.heap.size v7 (tpB cs (k+1))/\yp W2 W7):=⟨by rw[O HN2];exact eL (O vD),(O qS).grown (O HGRW) (O qS).size (fun q hq=>((O HR6).lt q hq).1)⟩;clear vD HGRW
   try dsimp only[H,h3,Y,M,yk,yl,yw,yx,yy,yq,yr,me]
   go_roundw
   case rel=>exact⟨k+1,by omega,by go_num,by rw[O cJ],O qI⟩
   case measure=>simp[intOf];omega
  ·obtain rfl:k=cs.length:=by omega
   have ux:¬ ((cs.length:Int)<cs.length):=by omega
   have x3:=J (O uG) 3 rfl;have x4:=J (O uG) 4 rfl;have x5:=J (O uG) 5 rfl;have x6:=J (O uG) 6 rfl;have x7:=J (O uG) 7 rfl;have x8:=J (O uG) 8 rfl;have x9:=J (O uG) 9 rfl;have cY:=J (O uG) 10 rfl;have HPBT:=U (pay_bts T.ns);generalize tpS cs cs.length=sk at HTL hTl' uF |-;generalize tpB cs cs.length=bk at HTL vv hTl' x0 |-;go_wp2_with fail;refine(O qi wr).mono ?_;rintro e W5 ⟨v5,rfl,ho5,uj⟩;generalize pay T.ns=P at HTL kU HPBT ho5 hTl';have uO:=O kU;have pu:=U ho5;have HR5:=U (zQ (O vv) uj);have uY:=U (mf (O HB) uj);clear ho5 uj x0 x3 x4 x5 x6 x7 x8 x9 cY;go_wp2_with fail;refine(l06FrameG_any 69 (by decide) v5 P sk wr.heap.size W5 (O pu) uO (O HPBT) uF.1 uF.2).mono ?_;rintro e W6 ⟨v6,rfl,kO,vU⟩;have HO6:=U kO;have HR6:=U (zQ (O HR5) vU);have qS:=U (mf (O uY) vU);have qj:=U (il kO (by omega));have HNL:=U (bRow_nil kO);clear kO vU HR5 uY vv HB;generalize frL 69 P sk=FL at HTL qj hTl' HO6;generalize frS 69 P sk=FS;go_wp2_with (at_builtin;go_must (refine lF _ rfl _ _ 22 rfl W2.heap.size 5 i0 Tryz.underlying22 uo ub xX uh (.slice ao bk.length co) _ _ rfl (O HR6) v6 FL rfl (O qj) (O HNL) (by omega) (O qS).size ?_);intro v7 W7 xu F;have vD:=U xu;have HGRW:=U F;clear xu F)
   have jA:=U ((O qS).grown (O HGRW) (O qS).size (fun q hq=>((O HR6).lt q hq).1));have qI:Hid (BRow W7 w.heap.size v7 TL/\yp w W7):=⟨by rw[O HTL];exact bRow_base (eL (O vD)) (O xz).size,(O xz).trans ((O jA).mono (O xz).size)⟩;clear vD HGRW;go_wp2_with fail;go_ret;exact⟨_,rfl,O qI⟩
theorem specTapeOf_any (v:Value)(cs:List Cm)(w:World)(hr:RdR Cm.vs 8 w v cs)(aJ:∀c∈cs,c.g.size<=maxLen)(E:TpOk cs) :
  Calls Tryz.prog 5 #[v] w fun e w'=>∃v',e=yn (.tuple #[v',H 0])/\BRow w' w.heap.size v' (dN cs)/\yp w w':=by
 have HT:=U (l06Tape_any v cs w hr aJ E);have Z:=E.1;have Q:¬ ((4096:Int)<cs.length):=by omega
 have I:¬ ((200:Int)<cs.length):=by omega
 obtain⟨a,cap,rfl,-⟩:=hr;clear aJ E Z;go_enter Tryz.func5,Tryz.ntmps5;go_wp2_with fail;refine(O HT).mono ?_;rintro e w1 ⟨v1,rfl,D,K⟩;have HO:=U D;have HB:=U K;clear D K HT;go_wp2_with fail;go_ret2;exact⟨_,rfl,O HO,O HB⟩
end Go.Proofs.YtkofhemdefffpaaGreatDoor
