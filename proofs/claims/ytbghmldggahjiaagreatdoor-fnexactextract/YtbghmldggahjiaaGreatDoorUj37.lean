/-.-/
import Derived.Test.YtbghmldggahjiaaGreatDoorUj36
set_option linter.unusedVariables false
set_option maxHeartbeats 6400000
set_option maxRecDepth 100000
namespace Go.Proofs.YtbghmldggahjiaaGreatDoor
open Go.RowKit
theorem lE (w:World)(cs:List Value)(t:TypeId):(w.alloc (Obj.cells cs.toArray t)).rangeAt w.heap.size 0 cs:=fun j u h=>by
 rw[cell_of_row _ w.heap.size (0+j) cs.toArray t (0,0) (heap_alloc_new w _)];simpa using h
theorem size_madeE (w:World)(o:Obj):(w.alloc o).heap.size=w.heap.size+1:=by simp
structure Tt where
 a:Int
 b:Int
 c:Int
 d:Int
 e:Int
 f:Int
 g:Int
 h:Int
def Tt.ns (t:Tt):List Int:=[t.a,t.b,t.c,t.d,t.e,t.f,t.g,t.h]
def Tt.vs (t:Tt):List Value:=[H t.a,H t.b,H t.c,H t.d,H t.e,H t.f,H t.g,H t.h]
def I6 (n:Int):Prop:=-9223372036854775808<=n/\n<=9223372036854775807
def Tt.ok (t:Tt):Prop:=∀n∈t.ns,I6 n
def pay (l:List Int):List Int:=l.flatMap fun n=>putU (zz n)
theorem fC:∀(l:List Int),(∀n∈l,I6 n)->(pay l).length<=10*l.length
 | [],_=>by simp[pay]
 | n::r,h=>by
  have D:=ft _ (zz_lt n (h n (by simp)).1 (h n (by simp)).2);have E:=fC r (fun m hm=>h m (by simp[hm]));have h3:pay (n::r)=putU (zz n)++pay r:=rfl;rw[h3,yP,List.length_cons];omega
theorem gy (l:List Int){k:Nat}{n:Int}(h:l[k]? = some n):pay (l.take (k+1))=pay (l.take k)++putU (zz n):=by
 rw[pay,List.take_add_one,h,List.flatMap_append];simp[pay]
theorem one_b (l:List Int):∀u∈l.map (Value.int .u8),u.oneCell'=true:=by
 intro u hu;obtain⟨x,_,rfl⟩:=List.mem_map.1 hu;rfl
theorem gx {B:Nat}{w:World}{v:Value}{l:List Int}(h:OwnT B w v l):∃g cap,v = .slice (some (U g 0)) l.length cap/\g<w.heap.size/\∀j u,(l.map (Value.int .u8))[j]? = some u->w.cell? (((U g 0):Addr).add j)=some u:=by
 obtain⟨g,cap,xr,t,rfl,A,M,D,E,h3,h4,h5⟩:=h;refine⟨g,cap,rfl,(yY.1 M).1,fun j u hu=>?_⟩
 have hj:j<l.length:=by
  rcases Nat.lt_or_ge j l.length with h|h
  ·exact h
  ·rw[List.getElem?_eq_none (by simpa using h)] at hu;cases hu
 have:=cell_head M h5 hj;have e:((U g 0):Addr).add j=(U g j):=by unfold Addr.add;split <;> simp_all
 rw[e,this];rw[List.getElem?_map,yH hj] at hu;simpa[hj] using hu
theorem bRow_rd {W:World}{B:Nat}{v:Value}{l:List Int}(h:BRow W B v l)(hl:l.length<=1073741824):Rd W v l:=by
 rcases h.2 with⟨rfl,h0⟩|⟨g,cap,xr,rfl,A,M,D,E,h3,h4⟩
 ·exact⟨none,0,by rw[h0],hl,fun xy=>absurd (List.length_eq_zero_iff.1 h0) xy⟩
 ·refine⟨some (U g 0),cap,rfl,hl,fun _=>⟨g,0,rfl,fun i hi=>?_⟩⟩;have:=cell_head (l:=l) M (by simpa using h4) hi;simpa using this
theorem bRow_form {W:World}{B:Nat}{v:Value}{l:List Int}(h:BRow W B v l):∃a c,v = .slice a l.length c:=by
 rcases h.2 with⟨e,e2⟩|⟨g,cap,xr,e,_⟩
 ·exact⟨none,0,by rw[e,e2]⟩
 ·exact⟨_,_,e⟩
theorem bRow_base {W:World}{B C:Nat}{v:Value}{l:List Int}(h:BRow W B v l)(hC:C<=B):BRow W C v l:=by
 refine⟨h.1,?_⟩;rcases h.2 with hn|⟨g,cap,xr,rfl,M,rest⟩
 ·exact .inl hn
 ·exact .inr ⟨g,cap,xr,rfl,yN hC M,rest⟩
theorem putU_byte:∀(u:Nat),∀x∈putU u,0<=x/\x<=255:=by
 intro u
 induction u using Nat.strongRecOn with
 | _ u ih =>
  by_cases hu:u<128
  ·rw[lx hu];intro x hx;simp at hx;omega
  ·rw[putU_great hu];intro x hx;rcases List.mem_cons.1 hx with rfl|hx
   ·omega
   ·exact ih (u / 128) (by omega) x hx
theorem pay_bts (l:List Int):Bts (pay l):=by
 intro x hx;obtain⟨n,_,h⟩:=List.mem_flatMap.1 hx;exact putU_byte _ x h
inductive GJ where
 | bad (at_:Nat) (ah:Int)
 | ok (g:Gr) (es:List Ev)
def evsJ (p:List Int):Nat->Nat->Gr->List Ev->GJ
 | 0,_,g,es=>.ok g es
 | f+1,k,g,es=>if p.length<=k then .ok g es else match evA p k with
  | none=>.bad k 2
  | some (e,n)=>if zx g e=0 then evsJ p f n (dK g e) (es ++ [e]) else .bad k (zx g e)
theorem evsJ_fuel {p:List Int}:∀(f f' k:Nat) (g:Gr) (es:List Ev),p.length<k+f->p.length<k+f'->evsJ p f k g es=evsJ p f' k g es
 | 0,f',k,g,es,h,h'=>by
  cases f' with
  | zero=>rfl
  | succ f'=>rw[evsJ,evsJ,if_pos (by omega)]
 | f+1,0,k,g,es,h,h'=>by rw[evsJ,evsJ,if_pos (by omega)]
 | f+1,f'+1,k,g,es,h,h'=>by
  rw[evsJ,evsJ];split
  ·rfl
  cases he:evA p k with
  | none=>rfl
  | some x =>
   obtain⟨e,n⟩:=x;have hn:=evA_le he;simp only;split
   ·exact evsJ_fuel f f' n _ _ (by omega) (by omega)
   ·rfl
def evsK (p:List Int)(k:Nat)(g:Gr)(es:List Ev):GJ:=evsJ p (p.length+1) k g es
theorem evsK_end {p:List Int}{k:Nat}{g:Gr}{es:List Ev}(h:p.length<=k):evsK p k g es = .ok g es:=by
 unfold evsK;rw[evsJ,if_pos h]
theorem evsK_none {p:List Int}{k:Nat}{g:Gr}{es:List Ev}(h:k<p.length)(he:evA p k=none):evsK p k g es = .bad k 2:=by
 unfold evsK;rw[evsJ,if_neg (by omega),he]
theorem evsK_bad {p:List Int}{k n:Nat}{g:Gr}{es:List Ev}{e:Ev}(h:k<p.length)(he:evA p k=some (e,n))(hr:zx g e≠0):evsK p k g es = .bad k (zx g e):=by
 unfold evsK;rw[evsJ,if_neg (by omega),he];simp only;rw[if_neg hr]
theorem evsK_go {p:List Int}{k n:Nat}{g:Gr}{es:List Ev}{e:Ev}(h:k<p.length)(he:evA p k=some (e,n))(hr:zx g e=0):evsK p k g es=evsK p n (dK g e) (es ++ [e]):=by
 unfold evsK;rw[evsJ,if_neg (by omega),he];simp only;rw[if_pos hr];exact evsJ_fuel _ _ _ _ _ (by have:=evA_le he;omega) (by omega)
theorem evsJ_run {p:List Int}:∀(f k:Nat) (g g':Gr) (es es':List Ev),evsJ p f k g es = .ok g' es'->∃r,es'=es++r/\runG g r=(g',0)/\∀e∈r,okE e=true/\e.cmd.g.size<=13
 | 0,k,g,g',es,es',h=>by rw[evsJ] at h;cases h;exact⟨[],by simp,rfl,by simp⟩
 | f+1,k,g,g',es,es',h=>by
  rw[evsJ] at h;split at h
  ·cases h;exact⟨[],by simp,rfl,by simp⟩
  cases he:evA p k with
  | none=>rw[he] at h;cases h
  | some x =>
   obtain⟨e,n⟩:=x;rw[he] at h;simp only at h;split at h
   ·rename_i h0;obtain⟨r,D,E,h3⟩:=evsJ_run f n _ g' _ es' h;refine⟨e::r,by rw[D];simp,by rw[runG_go h0];exact E,fun x hx=>?_⟩;rcases List.mem_cons.1 hx with rfl|hx
    ·exact evA_ok he
    ·exact h3 x hx
   ·cases h
def grpJ (p:List Int)(cs:List Cm):(Nat × Int) ⊕ Cm:=match evsK p 0 (gr0 (runS cs).n (runS cs).l) [] with
 | .bad k r=>.inl (k,r)
 | .ok g es=>if endR g=0 then .inr (zV (es.headD ⟨0,zCm,0,0,0,0,0⟩)) else .inl (p.length,15)
theorem grpJ_bad {p:List Int}{cs:List Cm}{k:Nat}{r:Int}(h:evsK p 0 (gr0 (runS cs).n (runS cs).l) [] = .bad k r):grpJ p cs = .inl (k,r):=by unfold grpJ;rw[h]
theorem grpJ_short {p:List Int}{cs:List Cm}{g:Gr}{es:List Ev}(h:evsK p 0 (gr0 (runS cs).n (runS cs).l) [] = .ok g es)(he:endR g≠0):grpJ p cs = .inl (p.length,15):=by unfold grpJ;rw[h];simp only;rw[if_neg he]
theorem grpJ_ok {p:List Int}{cs:List Cm}{g:Gr}{es:List Ev}(hl:cs.length<=200)(h:evsK p 0 (gr0 (runS cs).n (runS cs).l) [] = .ok g es)(he:endR g=0) :
  ∃e r,es=e::r/\grpJ p cs = .inr (zV e)/\es=stE (runS cs).n (runS cs).l (zV e)/\g.nx=stN (runS cs).n (runS cs).l (zV e)/\g.l=stL (runS cs).n (runS cs).l (zV e)/\(zV e).g.size<=13:=by
 obtain⟨r,D,E,h3⟩:=evsJ_run _ _ _ _ _ _ h;rw[List.nil_append] at D;subst D;obtain⟨e,r',rfl,h5,h6,h7⟩:=law_eng (gR cs hl).1.good (fun e he=>(h3 e he).1) E he;refine⟨e,r',rfl,?_,h5,h6,h7,?_⟩
 ·unfold grpJ;rw[h];simp only;rw[if_pos he];rfl
 ·have:=(h3 e (by simp)).2;unfold zV
  repeat' split
  all_goals first|exact this|exact Nat.zero_le _
def ttJ (cs:List Cm):Tt:=⟨(wbT (runS cs).t (runS cs).l).gr,(wbT (runS cs).t (runS cs).l).ac,(wbT (runS cs).t (runS cs).l).rf,(wbT (runS cs).t (runS cs).l).tr,(wbT (runS cs).t (runS cs).l).vo,(wbT (runS cs).t (runS cs).l).no,(wbT (runS cs).t (runS cs).l).li,(wbT (runS cs).t (runS cs).l).le⟩
def endJ (l:List Int)(n t:Nat)(cs:List Cm):Nat × Int:=
 if (l.drop n).take (t-n)≠pay (ttJ cs).ns then(n,16) else if t+2<l.length then(t+2,17) else(0,0)
def jdF (l:List Int):Nat->Nat->Int->List Cm->List Cm × Nat × Int
 | 0,k,_,cs=>(cs,k,1)
 | f+1,k,s,cs=>match frA l k s with
  | none=>(cs,k,1)
  | some (m,n,t,s2)=>if m=69 then(cs,endJ l n t cs) else if cs.length=200 then(cs,k,18) else
   match grpJ ((l.drop n).take (t-n)) cs with
   | .inl (q,r)=>(cs,n+q,r)
   | .inr c=>jdF l f (t+2) s2 (cs ++ [c])
theorem jdF_fuel {l:List Int}:∀(f f' k:Nat) (s:Int) (cs:List Cm),l.length<k+f->l.length<k+f'->jdF l f k s cs=jdF l f' k s cs
 | 0,f',k,s,cs,h,h'=>by
  cases f' with
  | zero=>rfl
  | succ f'=>rw[jdF,jdF,frA_end (by omega)]
 | f+1,0,k,s,cs,h,h'=>by rw[jdF,jdF,frA_end (by omega)]
 | f+1,f'+1,k,s,cs,h,h'=>by
  rw[jdF,jdF];cases hf:frA l k s with
  | none=>rfl
  | some x =>
   obtain⟨m,n,t,s2⟩:=x;have hn:=frA_some hf;simp only;split
   ·rfl
   split
   ·rfl
   cases grpJ ((l.drop n).take (t-n)) cs with
   | inl x=>rfl
   | inr c=>exact jdF_fuel f f' _ _ _ (by omega) (by omega)
def jdK (l:List Int)(k:Nat)(s:Int)(cs:List Cm):List Cm × Nat × Int:=jdF l (l.length+1) k s cs
theorem jdK_none {l:List Int}{k:Nat}{s:Int}{cs:List Cm}(h:frA l k s=none):jdK l k s cs=(cs,k,1):=by unfold jdK;rw[jdF,h]
theorem jdK_end {l:List Int}{k:Nat}{s:Int}{cs:List Cm}{n t:Nat}{s2:Int}(h:frA l k s=some (69,n,t,s2)):jdK l k s cs=(cs,endJ l n t cs):=by unfold jdK;rw[jdF,h];simp
theorem jdK_many {l:List Int}{k:Nat}{s:Int}{cs:List Cm}{n t:Nat}{s2:Int}(h:frA l k s=some (71,n,t,s2))(hc:cs.length=200):jdK l k s cs=(cs,k,18):=by unfold jdK;rw[jdF,h];simp[hc]
theorem jdK_bad {l:List Int}{k:Nat}{s:Int}{cs:List Cm}{n t:Nat}{s2:Int}{q:Nat}{r:Int}(h:frA l k s=some (71,n,t,s2))(hc:cs.length≠200)(M:grpJ ((l.drop n).take (t-n)) cs = .inl (q,r)):jdK l k s cs=(cs,n+q,r):=by
 unfold jdK;rw[jdF,h];simp only;rw[if_neg (by decide),if_neg hc,M]
theorem jdK_go {l:List Int}{k:Nat}{s:Int}{cs:List Cm}{n t:Nat}{s2:Int}{c:Cm}(h:frA l k s=some (71,n,t,s2))(hc:cs.length≠200)(M:grpJ ((l.drop n).take (t-n)) cs = .inr c):jdK l k s cs=jdK l (t+2) s2 (cs ++ [c]):=by
 unfold jdK;rw[jdF,h];simp only;rw[if_neg (by decide),if_neg hc,M];exact jdF_fuel _ _ _ _ _ (by have:=frA_some h;omega) (by omega)
def judJ (l:List Int):List Cm × Nat × Int:=if l.take 3 = [84,74,49] then jdK l 3 (sumL [84,74,49] 1) [] else([],0,1)
def pkO (cs:List Cm):Nat:=(List.range cs.length).foldl (fun m i=>max m (runS (cs.take (i+1))).l.length) 0
def pkL (cs:List Cm):Nat:=(List.range cs.length).foldl (fun m i=>max m (nlev (runS (cs.take (i+1))).l)) 0
theorem fold_same {α β:Type}{f g:β->α->β}:∀(l:List α) (m:β),(∀a∈l,∀m,f m a=g m a)->l.foldl f m=l.foldl g m
 | [],m,h=>rfl
 | a::l,m,h=>by rw[List.foldl_cons,List.foldl_cons,h a (by simp),fold_same l _ fun b A=>h b (by simp[A])]
theorem pkO_snoc (cs:List Cm)(c:Cm):pkO (cs ++ [c])=max (pkO cs) (runS (cs ++ [c])).l.length:=by
 unfold pkO;rw[yP,List.length_singleton,List.range_succ,List.foldl_append];simp only[List.foldl_cons,List.foldl_nil];rw[yZ (l:=cs ++ [c]) (by simp)];congr 1;refine fold_same _ _ fun i hi m=>?_;rw[List.take_append_of_le_length (by have:=List.mem_range.1 hi;omega)]
theorem pkL_snoc (cs:List Cm)(c:Cm):pkL (cs ++ [c])=max (pkL cs) (nlev (runS (cs ++ [c])).l):=by
 unfold pkL;rw[yP,List.length_singleton,List.range_succ,List.foldl_append];simp only[List.foldl_cons,List.foldl_nil];rw[yZ (l:=cs ++ [c]) (by simp)];congr 1;refine fold_same _ _ fun i hi m=>?_;rw[List.take_append_of_le_length (by have:=List.mem_range.1 hi;omega)]
theorem run_snoc (cs:List Cm)(c:Cm):runS (cs ++ [c])=rstep (runS cs) c:=by unfold runS;rw[List.foldl_append];rfl
def livS (l:List Od):Int:=l.foldl (fun n o=>wrap64 (n+o.left)) 0
theorem liv_step (l:List Od){k:Nat}{o:Od}(h:l[k]? = some o):livS (l.take (k+1))=wrap64 (livS (l.take k)+o.left):=by
 unfold livS;rw[List.take_add_one,h,List.foldl_append];rfl
theorem l04Live_any (next:Int)(v:Value)(l:List Od)(w:World)(hr:RdR Od.vs 6 w v l) :
  Calls Tryz.prog 79 #[.agg #[H next,v]] w fun r w'=>r=ym (.tuple #[H l.length,H (livS l)])/\yn w w':=by
 obtain⟨a,cap,rfl,xD,hc⟩:=hr
 have xp:∀(k:Nat) (c:Od),l[k]? = some c->∃b off,a=some (U b off)/\b<w.heap.size/\w.rangeAt b (off+k*6) c.vs:=by
  intro k c X;obtain⟨b,off,D,E,h3⟩:=hc (by intro h;rw[h] at X;simp at X);exact⟨b,off,D,E,h3 k c X⟩
 have HC:=Q xp;clear xp hc;have b1:=lT w (J #[H next,.slice a l.length cap] 41);have HX:Hid (_/\_/\_):=⟨zo w [H next,.slice a l.length cap] 41,b1,zh w (J #[H next,.slice a l.length cap] 41)⟩;clear b1;go_enter Tryz.func79,Tryz.ntmps79;refine lX fun ho xV=>?_;go_wp2_with fail;refine Z xV _ _ ?_;clear xV;change Hid (World.rangeAt (w.alloc (J #[H next,.slice a l.length cap] 41)) w.heap.size 0 [H next,.slice a l.length cap]/\yn w (w.alloc (J #[H next,.slice a l.length cap] 41))/\(w.alloc (J #[H next,.slice a l.length cap] 41)).heap.size=w.heap.size+1) at HX;generalize (w.alloc (J #[H next,.slice a l.length cap] 41))=hk at HX |-;have c1:hk.cell? (yq w 1)=some (.slice a l.length cap):=(Z HX).1 1 _ rfl;go_wp2_with fail;go_loopw [4,5] (fun nv iv wr=>wr=hk/\∃(k:Nat),k<=l.length/\iv=H k/\∃n:Int,nv=H n/\Hid (n=livS (l.take k))) (fun _ iv _=>l.length-(intOf iv).toNat)
 case atStart=>exact⟨rfl,0,Nat.zero_le _,rfl,0,rfl,rfl⟩
 case round =>
  obtain⟨rfl,k,X,rfl,n,rfl,hn⟩:=hrel
  by_cases xH:k<l.length
  ·obtain⟨e,hke⟩:∃e,l[k]? = some e:=⟨_,yH xH⟩;obtain⟨b,off,rfl,A,xm⟩:=Z HC k e hke;have vn:=Q (liv_step l hke);have uq:(k:Int)<l.length:=by omega
   obtain⟨g0,g1,g2,g3,g4,g5⟩:=zM (zd xm (Z HX).2.1 A);clear hke xm A;go_wp2_with fail;go_roundw
   case rel=>exact⟨trivial,k+1,by omega,by go_num,_,rfl,Q (by rw[Z vn,Z hn])⟩
   case measure=>simp[intOf];omega
  ·have uq:¬ (k:Int)<l.length:=by omega
   rw[yZ (by omega)] at hn;have HB:=Q (Z HX).2.1;clear HX;go_wp2_with fail
   try simp only[Exit.inBlock,Exit.then]
   refine bodyPost_ret (by simp[results,Tryz.results79,go_sem];try rfl) rfl ?_;exact⟨by rw[Z hn],Z HB⟩
def cntM (t:Tot)(e:Ev):Tot:=
 if e.kind=1 then { t with ac:=wrap64 (t.ac+1) } else if e.kind=2 then { t with rf:=wrap64 (t.rf+1) }
 else if e.kind=3 then { t with tr:=wrap64 (t.tr+1),vo:=wrap64 (t.vo+e.qty),no:=wrap64 (t.no+wrap64 (e.qty*e.price)),le:=wrap64 (t.le-e.qty) }
 else if e.kind=4 then { t with li:=wrap64 (t.li+1),le:=wrap64 (t.le+e.qty) } else t
theorem l04Count_any (t:Tot)(e:Ev)(w:World) :
  Calls Tryz.prog 86 #[.agg #[H t.gr,H t.ac,H t.rf,H t.tr,H t.vo,H t.no,H t.li,H t.le],.agg (yv e.kind e.cmd.k e.cmd.s e.cmd.t e.cmd.l e.cmd.q e.cmd.i e.cmd.p e.cmd.g e.id e.other e.qty e.price e.reason).toArray] w fun r w'=>r=ym (.agg #[H (cntM t e).gr,H (cntM t e).ac,H (cntM t e).rf,H (cntM t e).tr,H (cntM t e).vo,H (cntM t e).no,H (cntM t e).li,H (cntM t e).le])/\yn w w':=by
 have HM:Hid (cntM t e=if e.kind=1 then { t with ac:=wrap64 (t.ac+1) } else if e.kind=2 then { t with rf:=wrap64 (t.rf+1) }
  else if e.kind=3 then { t with tr:=wrap64 (t.tr+1),vo:=wrap64 (t.vo+e.qty),no:=wrap64 (t.no+wrap64 (e.qty*e.price)),le:=wrap64 (t.le-e.qty) }
  else if e.kind=4 then { t with li:=wrap64 (t.li+1),le:=wrap64 (t.le+e.qty) } else t):=rfl
 generalize cntM t e=hg at HM |-;obtain⟨qH,qG,qJ,qK,qL,qI,uY,qD⟩:=t;simp only at HM |-;have hsf:=sfl;have xI:=zh w (J #[H qH,H qG,H qJ,H qK,H qL,H qI,H uY,H qD] 43);have uc:((w.alloc (J #[H qH,H qG,H qJ,H qK,H qL,H qI,H uY,H qD] 43)).alloc (J (yv e.kind e.cmd.k e.cmd.s e.cmd.t e.cmd.l e.cmd.q e.cmd.i e.cmd.p e.cmd.g e.id e.other e.qty e.price e.reason).toArray 89)).heap.size=w.heap.size+1+1:=by rw[zh,xI]
 have ja:(((w.alloc (J #[H qH,H qG,H qJ,H qK,H qL,H qI,H uY,H qD] 43)).alloc (J (yv e.kind e.cmd.k e.cmd.s e.cmd.t e.cmd.l e.cmd.q e.cmd.i e.cmd.p e.cmd.g e.id e.other e.qty e.price e.reason).toArray 89)).alloc (J #[H 0,H 0,H 0,H 0,H 0,H 0,H 0,H 0] 43)).heap.size=w.heap.size+1+1+1:=by rw[zh,uc]
 have r1:=zo w [H qH,H qG,H qJ,H qK,H qL,H qI,H uY,H qD] 43;have t1:=zT w [H qH,H qG,H qJ,H qK,H qL,H qI,H uY,H qD] 43;have r2:=zo (w.alloc (J #[H qH,H qG,H qJ,H qK,H qL,H qI,H uY,H qD] 43)) (yv e.kind e.cmd.k e.cmd.s e.cmd.t e.cmd.l e.cmd.q e.cmd.i e.cmd.p e.cmd.g e.id e.other e.qty e.price e.reason) 89;have t3:=zT ((w.alloc (J #[H qH,H qG,H qJ,H qK,H qL,H qI,H uY,H qD] 43)).alloc (J (yv e.kind e.cmd.k e.cmd.s e.cmd.t e.cmd.l e.cmd.q e.cmd.i e.cmd.p e.cmd.g e.id e.other e.qty e.price e.reason).toArray 89)) [H 0,H 0,H 0,H 0,H 0,H 0,H 0,H 0] 43;rw[uc] at t3;rw[xI] at r2;have b1:=lT w (J #[H qH,H qG,H qJ,H qK,H qL,H qI,H uY,H qD] 43);have b2:Below (w.heap.size+1) (w.alloc (J #[H qH,H qG,H qJ,H qK,H qL,H qI,H uY,H qD] 43)) ((w.alloc (J #[H qH,H qG,H qJ,H qK,H qL,H qI,H uY,H qD] 43)).alloc (J (yv e.kind e.cmd.k e.cmd.s e.cmd.t e.cmd.l e.cmd.q e.cmd.i e.cmd.p e.cmd.g e.id e.other e.qty e.price e.reason).toArray 89)):=(Below.refl _ _).alloc (by omega) _;have b3:Below (w.heap.size+1+1) ((w.alloc (J #[H qH,H qG,H qJ,H qK,H qL,H qI,H uY,H qD] 43)).alloc (J (yv e.kind e.cmd.k e.cmd.s e.cmd.t e.cmd.l e.cmd.q e.cmd.i e.cmd.p e.cmd.g e.id e.other e.qty e.price e.reason).toArray 89)) (((w.alloc (J #[H qH,H qG,H qJ,H qK,H qL,H qI,H uY,H qD] 43)).alloc (J (yv e.kind e.cmd.k e.cmd.s e.cmd.t e.cmd.l e.cmd.q e.cmd.i e.cmd.p e.cmd.g e.id e.other e.qty e.price e.reason).toArray 89)).alloc (J #[H 0,H 0,H 0,H 0,H 0,H 0,H 0,H 0] 43)):=(Below.refl _ _).alloc (by omega) _;have HX:Hid (_/\_/\_/\_/\_):=⟨zd (zd r1 b2 (by omega)) b3 (by omega),zl (zl t1 b2 (by omega)) b3 (by omega),t3,(b1.trans (b2.mono (by omega))).trans (b3.mono (by omega)),Nat.le_of_eq ja.symm⟩;have qX:=Q (zd r2 b3 (by omega));clear xI uc ja r1 r2 t1 t3 b1 b2 b3;go_enter Tryz.func86,Tryz.ntmps86;refine lX fun ho xV=>?_;go_wp2_with fail;refine Z xV _ _ ?_;clear xV;generalize (((w.alloc (J #[H qH,H qG,H qJ,H qK,H qL,H qI,H uY,H qD] 43)).alloc (J (yv e.kind e.cmd.k e.cmd.s e.cmd.t e.cmd.l e.cmd.q e.cmd.i e.cmd.p e.cmd.g e.id e.other e.qty e.price e.reason).toArray 89)).alloc (J #[H 0,H 0,H 0,H 0,H 0,H 0,H 0,H 0] 43))=hk at HX qX |-;have HX:Hid (hk.rangeAt w.heap.size 0 [H qH,H qG,H qJ,H qK,H qL,H qI,H uY,H qD]/\hk.there w.heap.size 0 8/\hk.there (w.heap.size+1+1) 0 8/\yn w hk/\w.heap.size+1+1+1<=hk.heap.size):=Z HX;obtain⟨g0,g1,g2,g3,g4,g5,g6,g7,g8,g9,oi,jU,qh,oZ⟩:=ev_cells (Z qX);clear g1 g2 g3 g4 g5 g6 g7 g8 g9 oi oZ qX;simp only[Nat.zero_add] at jU qh;have d0:hk.cell? (yq w 0)=some (H qH):=(Z HX).1 0 _ rfl;have p0:hk.frozen? (yq w 0)=false:=by have:=((Z HX).2.1 0 (by omega)).2;rwa[Nat.zero_add] at this
 have d1:hk.cell? (yq w 1)=some (H qG):=(Z HX).1 1 _ rfl;have p1:hk.frozen? (yq w 1)=false:=by have:=((Z HX).2.1 1 (by omega)).2;rwa[Nat.zero_add] at this
 have d2:hk.cell? (yq w 2)=some (H qJ):=(Z HX).1 2 _ rfl;have p2:hk.frozen? (yq w 2)=false:=by have:=((Z HX).2.1 2 (by omega)).2;rwa[Nat.zero_add] at this
 have d3:hk.cell? (yq w 3)=some (H qK):=(Z HX).1 3 _ rfl;have p3:hk.frozen? (yq w 3)=false:=by have:=((Z HX).2.1 3 (by omega)).2;rwa[Nat.zero_add] at this
 have d4:hk.cell? (yq w 4)=some (H qL):=(Z HX).1 4 _ rfl;have p4:hk.frozen? (yq w 4)=false:=by have:=((Z HX).2.1 4 (by omega)).2;rwa[Nat.zero_add] at this
 have d5:hk.cell? (yq w 5)=some (H qI):=(Z HX).1 5 _ rfl;have p5:hk.frozen? (yq w 5)=false:=by have:=((Z HX).2.1 5 (by omega)).2;rwa[Nat.zero_add] at this
 have d6:hk.cell? (yq w 6)=some (H uY):=(Z HX).1 6 _ rfl;have p6:hk.frozen? (yq w 6)=false:=by have:=((Z HX).2.1 6 (by omega)).2;rwa[Nat.zero_add] at this
 have d7:hk.cell? (yq w 7)=some (H qD):=(Z HX).1 7 _ rfl;have p7:hk.frozen? (yq w 7)=false:=by have:=((Z HX).2.1 7 (by omega)).2;rwa[Nat.zero_add] at this
 refine lX fun ho xV=>?_
 have HT:Hid (∀(V:World) (T:Tot) (u5 u6 u7 u8 u9 u10 u11 u12 u13 u14 u15 u16 u17 u18 u19 u20 u21 u22 u23 u24 u25 u26 u27 u28 u29 u30 u31 u32 u33 u34 u35 u36 u37 u38 u39 u40 u41 u42 u43 u44 u45 u46 u47 u48 u49 u50 u51 u52 u53 u54 u55 u56 u57:Value),hg=T->(V.rangeAt w.heap.size 0 T.vs/\V.there w.heap.size 0 8/\V.there (w.heap.size+1+1) 0 8/\yn w V/\w.heap.size+1+1+1<=V.heap.size)->ho { tmps:=#[.agg #[H qH,H qG,H qJ,H qK,H qL,H qI,H uY,H qD],.agg (yv e.kind e.cmd.k e.cmd.s e.cmd.t e.cmd.l e.cmd.q e.cmd.i e.cmd.p e.cmd.g e.id e.other e.qty e.price e.reason).toArray,yp w 0,xj (w.heap.size+1) 0,xj (w.heap.size+1+1) 0,u5,u6,u7,u8,u9,u10,u11,u12,u13,u14,u15,u16,u17,u18,u19,u20,u21,u22,u23,u24,u25,u26,u27,u28,u29,u30,u31,u32,u33,u34,u35,u36,u37,u38,u39,u40,u41,u42,u43,u44,u45,u46,u47,u48,u49,u50,u51,u52,u53,u54,u55,u56,u57,F],defers:=[] } V):=by
  intro V T u5 u6 u7 u8 u9 u10 u11 u12 u13 u14 u15 u16 u17 u18 u19 u20 u21 u22 u23 u24 u25 u26 u27 u28 u29 u30 u31 u32 u33 u34 u35 u36 u37 u38 u39 u40 u41 u42 u43 u44 u45 u46 u47 u48 u49 u50 u51 u52 u53 u54 u55 u56 u57 hMT vf;have HY:=Q vf;have ps:=Q hMT;clear vf hMT HM HX g0 jU qh d0 p0 d1 p1 d2 p2 d3 p3 d4 p4 d5 p5 d6 p6 d7 p7;obtain⟨agr,aac,arf,atr,avo,ano,ali,ale⟩:=T;have c0:V.cell? (yq w 0)=some (H agr):=(Z HY).1 0 _ rfl;obtain⟨y0,z0,q0⟩:=zi (Z HY).2.2.1 (j:=0) (by omega);have c1:V.cell? (yq w 1)=some (H aac):=(Z HY).1 1 _ rfl;obtain⟨y1,z1,q1⟩:=zi (Z HY).2.2.1 (j:=1) (by omega);have c2:V.cell? (yq w 2)=some (H arf):=(Z HY).1 2 _ rfl;obtain⟨y2,z2,q2⟩:=zi (Z HY).2.2.1 (j:=2) (by omega);have c3:V.cell? (yq w 3)=some (H atr):=(Z HY).1 3 _ rfl;obtain⟨y3,z3,q3⟩:=zi (Z HY).2.2.1 (j:=3) (by omega);have c4:V.cell? (yq w 4)=some (H avo):=(Z HY).1 4 _ rfl;obtain⟨y4,z4,q4⟩:=zi (Z HY).2.2.1 (j:=4) (by omega);have c5:V.cell? (yq w 5)=some (H ano):=(Z HY).1 5 _ rfl;obtain⟨y5,z5,q5⟩:=zi (Z HY).2.2.1 (j:=5) (by omega);have c6:V.cell? (yq w 6)=some (H ali):=(Z HY).1 6 _ rfl;obtain⟨y6,z6,q6⟩:=zi (Z HY).2.2.1 (j:=6) (by omega);have c7:V.cell? (yq w 7)=some (H ale):=(Z HY).1 7 _ rfl;obtain⟨y7,z7,q7⟩:=zi (Z HY).2.2.1 (j:=7) (by omega);have ki:=Q (yX V (w.heap.size+1+1) 0 [H agr,H aac,H arf,H atr,H avo,H ano,H ali,H ale] (fun j hj=>(Z HY).2.2.1 j hj));have cM:=Q (zg (w.heap.size+1+1) (by omega) [H agr,H aac,H arf,H atr,H avo,H ano,H ali,H ale] 0 V (Z HY).2.2.2.1);refine Z xV _ _ ?_;clear xV;go_wp2_with fail;change bodyPost _ _ _ _ _ (V.setCells (w.heap.size+1+1) 0 [H agr,H aac,H arf,H atr,H avo,H ano,H ali,H ale]);generalize V.setCells (w.heap.size+1+1) 0 [H agr,H aac,H arf,H atr,H avo,H ano,H ali,H ale]=WE at ki cM |-;obtain⟨d0,d1,d2,d3,d4,d5,d6,d7⟩:=yD (Z ki);refine bodyPost_ret (by simp[results,Tryz.results86,go_sem,d0,d1,d2,d3,d4,d5,d6,d7];try rfl) rfl ?_;exact⟨by rw[Z ps],Z cM⟩
 clear xV
 by_cases D:e.kind=1
 ·have b1:(e.kind==1)=true:=by simpa using D
  have HE:=Q ((Z HM).trans (if_pos D));clear HM D;go_wp2_with fail;exact Z HT _ (Tot.mk qH (wrap64 (qG+1)) qJ qK qL qI uY qD) _ _ _ _ _ _ _ _ _ _ _ _ _ _ _ _ _ _ _ _ _ _ _ _ _ _ _ _ _ _ _ _ _ _ _ _ _ _ _ _ _ _ _ _ _ _ _ _ _ _ _ _ _ (Z HE) (keepB (Z HX) 1 (by simp) _)
 have b1:(e.kind==1)=false:=by rw[xd];exact D
 by_cases E:e.kind=2
 ·have b2:(e.kind==2)=true:=by simpa using E
  have HE:=Q ((Z HM).trans ((if_neg D).trans (if_pos E)));clear HM D E;go_wp2_with fail;exact Z HT _ (Tot.mk qH qG (wrap64 (qJ+1)) qK qL qI uY qD) _ _ _ _ _ _ _ _ _ _ _ _ _ _ _ _ _ _ _ _ _ _ _ _ _ _ _ _ _ _ _ _ _ _ _ _ _ _ _ _ _ _ _ _ _ _ _ _ _ _ _ _ _ (Z HE) (keepB (Z HX) 2 (by simp) _)
 have b2:(e.kind==2)=false:=by rw[xd];exact E
 by_cases h3:e.kind=3
 ·have b3:(e.kind==3)=true:=by simpa using h3
  have HE:=Q ((Z HM).trans ((if_neg D).trans ((if_neg E).trans (if_pos h3))));clear HM D E h3;go_wp2_with fail;exact Z HT _ (Tot.mk qH qG qJ (wrap64 (qK+1)) (wrap64 (qL+e.qty)) (wrap64 (qI+wrap64 (e.qty*e.price))) uY (wrap64 (qD-e.qty))) _ _ _ _ _ _ _ _ _ _ _ _ _ _ _ _ _ _ _ _ _ _ _ _ _ _ _ _ _ _ _ _ _ _ _ _ _ _ _ _ _ _ _ _ _ _ _ _ _ _ _ _ _ (Z HE) (keepB (keepB (keepB (keepB (Z HX) 3 (by simp) _) 4 (by simp) _) 5 (by simp) _) 7 (by simp) _)
 have b3:(e.kind==3)=false:=by rw[xd];exact h3
 by_cases h4:e.kind=4
 ·have b4:(e.kind==4)=true:=by simpa using h4
  have HE:=Q ((Z HM).trans ((if_neg D).trans ((if_neg E).trans ((if_neg h3).trans (if_pos h4)))));clear HM D E h3 h4;go_wp2_with fail;exact Z HT _ (Tot.mk qH qG qJ qK qL qI (wrap64 (uY+1)) (wrap64 (qD+e.qty))) _ _ _ _ _ _ _ _ _ _ _ _ _ _ _ _ _ _ _ _ _ _ _ _ _ _ _ _ _ _ _ _ _ _ _ _ _ _ _ _ _ _ _ _ _ _ _ _ _ _ _ _ _ (Z HE) (keepB (keepB (Z HX) 6 (by simp) _) 7 (by simp) _)
 have b4:(e.kind==4)=false:=by rw[xd];exact h4
 have HE:=Q ((Z HM).trans ((if_neg D).trans ((if_neg E).trans ((if_neg h3).trans (if_neg h4)))));clear HM D E h3 h4;go_wp2_with fail;exact Z HT _ (Tot.mk qH qG qJ qK qL qI uY qD) _ _ _ _ _ _ _ _ _ _ _ _ _ _ _ _ _ _ _ _ _ _ _ _ _ _ _ _ _ _ _ _ _ _ _ _ _ _ _ _ _ _ _ _ _ _ _ _ _ _ _ _ _ (Z HE) (Z HX)

def totG (t:Tot)(gl:List (List Ev)):Tot:=gl.foldl (fun t es=>es.foldl cntM t) t






end Go.Proofs.YtbghmldggahjiaaGreatDoor
