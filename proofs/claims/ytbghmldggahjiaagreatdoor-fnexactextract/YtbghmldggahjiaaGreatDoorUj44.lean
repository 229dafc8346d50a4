/-.-/
import Derived.Test.YtbghmldggahjiaaGreatDoorUj43
set_option linter.unusedVariables false
set_option maxHeartbeats 6400000
set_option maxRecDepth 100000
namespace Go.Proofs.YtbghmldggahjiaaGreatDoor
open Go.RowKit
def txtT (r:Option (ByteArray × Nat)):Value:=
 .tuple #[yk ((r.map fun x=>x.1).getD ⟨#[]⟩),H ((r.map fun x=>(x.2:Int)).getD 0),.bool r.isSome]
theorem txtT_none {r:Option (ByteArray × Nat)}(h:r=none):txtT r = .tuple #[yk ⟨#[]⟩,H 0,.bool false]:=by subst h;rfl
theorem txtT_some {r:Option (ByteArray × Nat)}{s:ByteArray}{n:Nat}(h:r=some (s,n)):txtT r = .tuple #[yk s,H n,.bool true]:=by subst h;rfl
theorem l01GetTxt_any (v:Value)(l:List Int)(k:Nat)(w:World)(hr:Rd w v l)(xC:dR v)(X:k<=l.length)(hl:l.length<=65536)(A:Bts l) :
  Calls Tryz.prog 165 #[v,H k] w fun e w'=>e=ym (txtT (ed l k))/\w'=w:=by
 have HR:=Q hr;have HG:=Q (fun w h=>l01Get_any v l k w h X hl A);obtain⟨a,cap,rfl,_,hc⟩:=hr;have HC:=Q hc;have hcp:=xC _ _ _ rfl;clear hc xC A;cases M:getU l k with
 | none =>
  have HT:=Q (txtT_none (textA_no M));have ue:=Q (iA M);clear M;go_enter Tryz.func165,Tryz.ntmps165;go_wp2_with fail;refine(Z HG _ (Z HR)).mono ?_;rw[Z ue];rintro e w1 ⟨rfl,rfl⟩;go_wp2_with fail
  go_ret3
  exact⟨by rw[Z HT];rfl,rfl⟩
 | some x =>
  obtain⟨u,n⟩:=x;have uB:=gj 10 0 0 l k u n M;have ue:=Q (iX M);have kB:=Q (fun h=>txtT_none (textA_bad M h));have vR:=Q (fun h=>txtT_some (textA_yes M h));clear M;generalize unz u=z at *;obtain⟨cD,hn2⟩:=uB
  by_cases ut:z<0\/13<z\/(l.length:Int)-n<z
  ·have HT:=Q (Z kB ut);rcases(show z<0\/(0<=z/\13<z)\/(0<=z/\z<=13/\(l.length:Int)<n+z) by omega) with D|⟨D,E⟩|⟨D,E,h3⟩
   all_goals
    clear ut;go_enter Tryz.func165,Tryz.ntmps165;go_wp2_with fail;refine(Z HG _ (Z HR)).mono ?_;rw[Z ue];rintro e w1 ⟨rfl,rfl⟩;go_wp2_with fail
    go_ret3
    exact⟨by rw[Z HT];rfl,rfl⟩
  ·obtain⟨c,rfl⟩:=Int.eq_ofNat_of_zero_le (show 0<=z by omega);have HT:=Q (Z vR ut);rw[Int.toNat_natCast] at HT;have E:(c:Int)<=13:=by omega
   have h3:(n:Int)+c<=l.length:=by omega
   have h4:(n:Int)+c<=cap:=by omega
   clear ut
   by_cases xy:l = []
   ·subst xy;obtain rfl:n=0:=by simpa using cD
    obtain rfl:c=0:=by simp at h3;omega
    have hcv:=fun c' a' W=>gH (.slice a' 0 c') [] W ⟨a',c',rfl,by simp,fun h=>absurd rfl h⟩;have HT':Hid (txtT (ed [] k) = .tuple #[yk (strB []),H 0,.bool true]):=Z HT;generalize strB []=s at *;go_enter Tryz.func165,Tryz.ntmps165;go_wp2_with fail;refine(Z HG _ (Z HR)).mono ?_;rw[Z ue];rintro e w1 ⟨rfl,rfl⟩;go_wp2_with fail
    all_goals go_ret3
    all_goals exact⟨by rw[Z HT'];rfl,rfl⟩
   ·obtain⟨b,off,rfl,xm⟩:=Z HC xy
    by_cases jn:c=0
    ·subst jn;have hcv:=fun c' a' W=>gH (.slice a' 0 c') [] W ⟨a',c',rfl,by simp,fun h=>absurd rfl h⟩;have HT':Hid (txtT (ed l k) = .tuple #[yk (strB []),H n,.bool true]):=Z HT;generalize strB []=s at *;have h5:(n:Int)<=cap:=by omega
     have h6:(n:Int)<=l.length:=by omega
     clear xm;go_enter Tryz.func165,Tryz.ntmps165;go_wp2_with fail;refine(Z HG _ (Z HR)).mono ?_;rw[Z ue];rintro e w1 ⟨rfl,rfl⟩;go_wp2_with fail
     all_goals go_ret3
     all_goals exact⟨by rw[Z HT'];rfl,rfl⟩
    ·have hcv:=fun W h=>gH _ _ W (piece_rd (w:=W) (b:=b) (off:=off) (cap:=cap-n) (n:=n) (c:=c) (l:=l) h (by omega) hl);replace hcv:=hcv w xm;generalize strB ((l.drop n).take c)=s at *;have hne2:¬ cap=n:=by omega
     clear xm;go_enter Tryz.func165,Tryz.ntmps165;go_wp2_with fail;refine(Z HG _ (Z HR)).mono ?_;rw[Z ue];rintro e w1 ⟨rfl,rfl⟩;go_wp2_with fail
     go_ret3
     exact⟨by rw[Z HT];rfl,rfl⟩
def numV (st:Option Nat)(l:List Int):Int:=match st with|none=>0|some k=>match getU l k with|none=>0|some (u,_)=>unz u
def fltV (st:Option Nat)(l:List Int):Nat:=match st with|none=>0|some k=>match ey l k with|none=>0|some (u,_)=>u
def txtV (st:Option Nat)(l:List Int):ByteArray:=match st with|none=>⟨#[]⟩|some k=>match ed l k with|none=>⟨#[]⟩|some (u,_)=>u
def numS (st:Option Nat)(l:List Int):Option Nat:=match st with|none=>none|some k=>match getU l k with|none=>none|some (_,n)=>some n
def fltS (st:Option Nat)(l:List Int):Option Nat:=match st with|none=>none|some k=>match ey l k with|none=>none|some (_,n)=>some n
def txtS (st:Option Nat)(l:List Int):Option Nat:=match st with|none=>none|some k=>match ed l k with|none=>none|some (_,n)=>some n
structure SS (wb:World) (R:Nat) (v:Value) (l:List Int) (st:Option Nat) (W:World):Prop where
 rd:Rd wb v l
 cap:dR v
 le:wb.heap.size<=R
 bel:Below wb.heap.size wb W
 x:∃k:Int,Bx W R [v,.int .i64 k,.bool st.isNone]/\∀n,st=some n->k=(n:Int)/\n<=l.length
 ll:l.length<=65536
 bb:Bts l
theorem SS.lt {wb:World}{R:Nat}{v:Value}{l:List Int}{st:Option Nat}{W:World}(h:SS wb R v l st W):R<W.heap.size:=by
 obtain⟨k,hx,_⟩:=h.x;exact yK W _ (Y hx 0 rfl)
theorem SS.drew {wb:World}{R:Nat}{v:Value}{l:List Int}{st:Option Nat}{W:World}(h:SS wb R v l st W):SS wb R v l st W.drew:=by
 obtain⟨k,hx,X⟩:=h.x;exact⟨h.rd,h.cap,h.le,h.bel.drew,⟨k,zm hx,X⟩,h.ll,h.bb⟩
theorem SS.below {wb:World}{R C:Nat}{v:Value}{l:List Int}{st:Option Nat}{W W':World}(h:SS wb R v l st W)(A:Below C W W')(hC:R<C):SS wb R v l st W':=by
 obtain⟨k,hx,X⟩:=h.x;exact⟨h.rd,h.cap,h.le,h.bel.trans (A.mono (Nat.le_of_lt (Nat.lt_of_le_of_lt h.le hC))),⟨k,zf hx A hC,X⟩,h.ll,h.bb⟩
theorem SS.other {wb:World}{R b j:Nat}{v u:Value}{l:List Int}{st:Option Nat}{W:World}(h:SS wb R v l st W)(A:R≠b)(uB:wb.heap.size<=b):SS wb R v l st (W.setCell (U b j) u):=by
 obtain⟨k,hx,X⟩:=h.x;exact⟨h.rd,h.cap,h.le,h.bel.setCell (p:=(U b j)) uB _,⟨k,ej hx A,X⟩,h.ll,h.bb⟩
theorem ss_bad {wb:World}{R m:Nat}{v:Value}{l:List Int}{W:World}(h:SS wb R v l (some m) W):SS wb R v l none (W.setCell (U R 2) (.bool true)):=by
 obtain⟨k,hx,X⟩:=h.x;exact⟨h.rd,h.cap,h.le,h.bel.setCell (p:=(U R 2)) h.le _,⟨k,eh (j:=2) (u:=.bool true) hx (by simp),fun n hn=>by cases hn⟩,h.ll,h.bb⟩
theorem ss_go {wb:World}{R m n:Nat}{v:Value}{l:List Int}{W:World}(h:SS wb R v l (some m) W)(hn:n<=l.length):SS wb R v l (some n) (W.setCell (U R 1) (H n)):=by
 obtain⟨k,hx,X⟩:=h.x;exact⟨h.rd,h.cap,h.le,h.bel.setCell (p:=(U R 1)) h.le _,⟨n,eh (j:=1) (u:=H n) hx (by simp),fun i hi=>by cases hi;exact⟨rfl,hn⟩⟩,h.ll,h.bb⟩
theorem getU_le' {l:List Int}{k u n:Nat}(h:getU l k=some (u,n)):n<=l.length/\k<=n:=gj 10 0 0 l k u n h
theorem fh (wb:World)(R:Nat)(v:Value)(l:List Int)(st:Option Nat)(W:World)(h:SS wb R v l st W) :
  Calls Tryz.prog 116 #[xj R 0] W fun e w'=>e=ym (H (numV st l))/\SS wb R v l (numS st l) w'/\W.grownBy w' (some R):=by
 skip
 obtain⟨k,hx,X⟩:=h.x;have HH:=Q h;obtain ⟨c0,c1,c2⟩:=q0_3 hx rfl;have f1:=zc hx 1 (by simp);have f2:=zc hx 2 (by simp);have HX:=Q hx;obtain⟨va,vc,hv⟩:=eb h.rd;cases st with
 | none =>
  clear X h hx;simp only[Option.isNone_none] at c2;subst hv;go_enter Tryz.func116,Tryz.ntmps116;go_wp2_with fail;go_ret;exact⟨rfl,Z HH,yR _ _⟩
 | some m =>
  obtain⟨rfl,hm⟩:=X m rfl;have HL:=Q (fun W' A=>l01Get_any v l m W' (zN h.rd A ya) hm h.ll h.bb);simp only[Option.isNone_some] at c2;cases M:getU l m with
  | none =>
   have aI:Calls Tryz.prog 78 #[v,H m] W.drew fun e w'=>e=ym (.tuple #[H 0,H 0,.bool false])/\w'=W.drew:=by
    have:=Z HL W.drew h.bel.drew;rw[iA M] at this;exact this
   have cP:=Q aI;have HV:Hid (numV (some m) l=0):=by show numV (some m) l = _;simp[numV,M]
   have HQ:Hid (numS (some m) l=none):=by show numS (some m) l=none;simp[numS,M]
   have kw:Hid (SS wb R v l none (W.drew.setCell (U R 2) (.bool true))):=ss_bad h.drew;clear M aI h hx;subst hv;go_enter Tryz.func116,Tryz.ntmps116;go_wp2_with fail
   go_region_with (go_at_call 78;refine(Z cP).mono ?_;rintro e w' ⟨rfl,rfl⟩)
   all_goals try go_wp2_with fail
   all_goals
    go_ret;exact⟨by rw[Z HV];rfl,by rw[Z HQ];exact Z kw,zC (dZ W 1 _) (eF _ _ _)⟩
  | some r =>
   obtain⟨u,n⟩:=r
   have aI:Calls Tryz.prog 78 #[v,H m] W.drew fun e w'=>e=ym (.tuple #[H (unz u),H n,.bool true])/\w'=W.drew:=by
    have:=Z HL W.drew h.bel.drew;rw[iX M] at this;exact this
   have cP:=Q aI;have HV:Hid (numV (some m) l=unz u):=by show numV (some m) l = _;simp[numV,M]
   have HQ:Hid (numS (some m) l=some n):=by show numS (some m) l = _;simp[numS,M]
   have kw:Hid (SS wb R v l (some n) (W.drew.setCell (U R 1) (H n))):=ss_go h.drew (getU_le' M).1;clear M aI h hx;generalize unz u=z at *;subst hv;go_enter Tryz.func116,Tryz.ntmps116;go_wp2_with fail
   go_region_with (go_at_call 78;refine(Z cP).mono ?_;rintro e w' ⟨rfl,rfl⟩)
   all_goals try go_wp2_with fail
   all_goals
    go_ret;exact⟨by rw[Z HV];rfl,by rw[Z HQ];exact Z kw,zC (dZ W 1 _) (eF _ _ _)⟩
theorem sFlt_any (wb:World)(R:Nat)(v:Value)(l:List Int)(st:Option Nat)(W:World)(h:SS wb R v l st W) :
  Calls Tryz.prog 117 #[xj R 0] W fun e w'=>e=ym (yj (fltV st l))/\SS wb R v l (fltS st l) w'/\W.grownBy w' (some R):=by
 skip
 obtain⟨k,hx,X⟩:=h.x;have HH:=Q h;obtain ⟨c0,c1,c2⟩:=q0_3 hx rfl;have f1:=zc hx 1 (by simp);have f2:=zc hx 2 (by simp);have HX:=Q hx;obtain⟨va,vc,hv⟩:=eb h.rd;cases st with
 | none =>
  clear X h hx;simp only[Option.isNone_none] at c2;subst hv;go_enter Tryz.func117,Tryz.ntmps117;go_wp2_with fail;go_ret;exact⟨rfl,Z HH,yR _ _⟩
 | some m =>
  obtain⟨rfl,hm⟩:=X m rfl;have HL:=Q (fun W' A=>l01GetFlt_any v l m W' (zN h.rd A ya) h.cap hm h.ll h.bb);simp only[Option.isNone_some] at c2;cases M:ey l m with
  | none =>
   have aI:Calls Tryz.prog 164 #[v,H m] W.drew fun e w'=>e=ym (.tuple #[yj 0,H 0,.bool false])/\w'=W.drew:=by
    have:=Z HL W.drew h.bel.drew;rw[fltT_none M] at this;exact this
   have cP:=Q aI;have HV:Hid (fltV (some m) l=0):=by show fltV (some m) l = _;simp[fltV,M]
   have HQ:Hid (fltS (some m) l=none):=by show fltS (some m) l=none;simp[fltS,M]
   have kw:Hid (SS wb R v l none (W.drew.setCell (U R 2) (.bool true))):=ss_bad h.drew;clear M aI h hx;subst hv;go_enter Tryz.func117,Tryz.ntmps117;go_wp2_with fail
   go_region_with (go_at_call 164;refine(Z cP).mono ?_;rintro e w' ⟨rfl,rfl⟩)
   all_goals try go_wp2_with fail
   all_goals
    go_ret;exact⟨by rw[Z HV];rfl,by rw[Z HQ];exact Z kw,zC (dZ W 1 _) (eF _ _ _)⟩
  | some r =>
   obtain⟨u,n⟩:=r
   have aI:Calls Tryz.prog 164 #[v,H m] W.drew fun e w'=>e=ym (.tuple #[yj (u),H n,.bool true])/\w'=W.drew:=by
    have:=Z HL W.drew h.bel.drew;rw[fltT_some M] at this;exact this
   have cP:=Q aI;have HV:Hid (fltV (some m) l=u):=by show fltV (some m) l = _;simp[fltV,M]
   have HQ:Hid (fltS (some m) l=some n):=by show fltS (some m) l = _;simp[fltS,M]
   have kw:Hid (SS wb R v l (some n) (W.drew.setCell (U R 1) (H n))):=ss_go h.drew (floatA_le M).1;clear M aI h hx
   skip
   subst hv;go_enter Tryz.func117,Tryz.ntmps117;go_wp2_with fail
   go_region_with (go_at_call 164;refine(Z cP).mono ?_;rintro e w' ⟨rfl,rfl⟩)
   all_goals try go_wp2_with fail
   all_goals
    go_ret;exact⟨by rw[Z HV];rfl,by rw[Z HQ];exact Z kw,zC (dZ W 1 _) (eF _ _ _)⟩
theorem sTxt_any (wb:World)(R:Nat)(v:Value)(l:List Int)(st:Option Nat)(W:World)(h:SS wb R v l st W) :
  Calls Tryz.prog 118 #[xj R 0] W fun e w'=>e=ym (yk (txtV st l))/\SS wb R v l (txtS st l) w'/\W.grownBy w' (some R):=by
 skip
 obtain⟨k,hx,X⟩:=h.x;have HH:=Q h;obtain ⟨c0,c1,c2⟩:=q0_3 hx rfl;have f1:=zc hx 1 (by simp);have f2:=zc hx 2 (by simp);have HX:=Q hx;obtain⟨va,vc,hv⟩:=eb h.rd;cases st with
 | none =>
  clear X h hx;simp only[Option.isNone_none] at c2;subst hv;go_enter Tryz.func118,Tryz.ntmps118;go_wp2_with fail;go_ret;exact⟨rfl,Z HH,yR _ _⟩
 | some m =>
  obtain⟨rfl,hm⟩:=X m rfl;have HL:=Q (fun W' A=>l01GetTxt_any v l m W' (zN h.rd A ya) h.cap hm h.ll h.bb);simp only[Option.isNone_some] at c2;cases M:ed l m with
  | none =>
   have aI:Calls Tryz.prog 165 #[v,H m] W.drew fun e w'=>e=ym (.tuple #[yk ⟨#[]⟩,H 0,.bool false])/\w'=W.drew:=by
    have:=Z HL W.drew h.bel.drew;rw[txtT_none M] at this;exact this
   have cP:=Q aI;have HV:Hid (txtV (some m) l=⟨#[]⟩):=by show txtV (some m) l = _;simp[txtV,M]
   have HQ:Hid (txtS (some m) l=none):=by show txtS (some m) l=none;simp[txtS,M]
   have kw:Hid (SS wb R v l none (W.drew.setCell (U R 2) (.bool true))):=ss_bad h.drew;clear M aI h hx;subst hv;go_enter Tryz.func118,Tryz.ntmps118;go_wp2_with fail
   go_region_with (go_at_call 165;refine(Z cP).mono ?_;rintro e w' ⟨rfl,rfl⟩)
   all_goals try go_wp2_with fail
   all_goals
    go_ret;exact⟨by rw[Z HV];rfl,by rw[Z HQ];exact Z kw,zC (dZ W 1 _) (eF _ _ _)⟩
  | some r =>
   obtain⟨u,n⟩:=r
   have aI:Calls Tryz.prog 165 #[v,H m] W.drew fun e w'=>e=ym (.tuple #[yk (u),H n,.bool true])/\w'=W.drew:=by
    have:=Z HL W.drew h.bel.drew;rw[txtT_some M] at this;exact this
   have cP:=Q aI;have HV:Hid (txtV (some m) l=u):=by show txtV (some m) l = _;simp[txtV,M]
   have HQ:Hid (txtS (some m) l=some n):=by show txtS (some m) l = _;simp[txtS,M]
   have kw:Hid (SS wb R v l (some n) (W.drew.setCell (U R 1) (H n))):=ss_go h.drew (textA_le M).1;clear M aI h hx
   skip
   subst hv;go_enter Tryz.func118,Tryz.ntmps118;go_wp2_with fail
   go_region_with (go_at_call 165;refine(Z cP).mono ?_;rintro e w' ⟨rfl,rfl⟩)
   all_goals try go_wp2_with fail
   all_goals
    go_ret;exact⟨by rw[Z HV];rfl,by rw[Z HQ];exact Z kw,zC (dZ W 1 _) (eF _ _ _)⟩
def stV (o:Nat)(st:Option Nat)(l:List Int):Value:=if o=7 then yj (fltV st l) else if o=8 then yk (txtV st l) else H (numV st l)
def stS (o:Nat)(st:Option Nat)(l:List Int):Option Nat:=if o=7 then fltS st l else if o=8 then txtS st l else numS st l
def stp (o:Nat)(p:Ev × Option Nat)(l:List Int):Ev × Option Nat:=(p.1.put o (stV o p.2 l),stS o p.2 l)
theorem stV_ty (o:Nat)(st:Option Nat)(l:List Int):TyO o (stV o st l):=by
 unfold TyO stV;split
 ·exact⟨_,rfl⟩
 ·split
  ·exact⟨_,rfl⟩
  ·exact⟨_,rfl⟩
theorem put_kind (e:Ev)(o:Nat)(x:Value):(e.put o x).kind=e.kind:=by
 unfold Ev.put;split <;> rfl
def spF (os:List Nat)(p:Ev × Option Nat)(l:List Int):Ev × Option Nat:=os.foldl (fun p o=>stp o p l) p
theorem st_some {o k n:Nat}{l:List Int}{x:Value}(h:rdF o l k=some (x,n)):stV o (some k) l=x/\stS o (some k) l=some n:=by
 unfold rdF at h;unfold stV stS
 by_cases h7:o=7
 ·simp only[if_pos h7] at h |-;obtain⟨⟨a,b⟩,D,E⟩:=Option.map_eq_some_iff.1 h;cases E;simp[fltV,fltS,D]
 ·simp only[if_neg h7] at h |-
  by_cases h8:o=8
  ·simp only[if_pos h8] at h |-;obtain⟨⟨a,b⟩,D,E⟩:=Option.map_eq_some_iff.1 h;cases E;simp[txtV,txtS,D]
  ·simp only[if_neg h8] at h |-;obtain⟨⟨a,b⟩,D,E⟩:=Option.map_eq_some_iff.1 h;cases E;simp[numV,numS,D]
theorem st_none {o k:Nat}{l:List Int}(h:rdF o l k=none):stS o (some k) l=none:=by
 unfold rdF at h;unfold stS
 by_cases h7:o=7
 ·simp only[if_pos h7] at h |-;have:=Option.map_eq_none_iff.1 h;simp[fltS,this]
 ·simp only[if_neg h7] at h |-
  by_cases h8:o=8
  ·simp only[if_pos h8] at h |-;have:=Option.map_eq_none_iff.1 h;simp[txtS,this]
  ·simp only[if_neg h8] at h |-;have:=Option.map_eq_none_iff.1 h;simp[numS,this]
theorem st_bad (o:Nat)(l:List Int):stS o none l=none:=by
 unfold stS
 repeat' split
 all_goals rfl
theorem spF_bad (l:List Int):∀(os:List Nat) (e:Ev),(spF os (e,none) l).2=none
 | [],e=>rfl
 | o::os,e=>by
  unfold spF;rw[List.foldl_cons];have:stp o (e,none) l=(e.put o (stV o none l),none):=by unfold stp;rw[st_bad]
  rw[this];exact spF_bad l os _
theorem spF_some (l:List Int):∀(os:List Nat) (e:Ev) (k:Nat) (x:Ev) (n:Nat),rdEs os e l k=some (x,n)->spF os (e,some k) l=(x,some n)
 | [],e,k,x,n,h=>by simp only[rdEs,Option.some.injEq,Prod.mk.injEq] at h;obtain⟨rfl,rfl⟩:=h;rfl
 | o::os,e,k,x,n,h=>by
  cases hr:rdF o l k with
  | none=>rw[gK hr] at h;cases h
  | some y =>
   obtain⟨y,m⟩:=y;rw[gw hr] at h;have ih:=spF_some l os _ m x n h;unfold spF at ih |-;rw[List.foldl_cons];have e1:stp o (e,some k) l=(e.put o y,some m):=by unfold stp;rw[(st_some hr).1,(st_some hr).2]
   rw[e1];exact ih
theorem spF_none (l:List Int):∀(os:List Nat) (e:Ev) (k:Nat),rdEs os e l k=none->(spF os (e,some k) l).2=none
 | [],e,k,h=>by simp[rdEs] at h
 | o::os,e,k,h=>by
  cases hr:rdF o l k with
  | none =>
   unfold spF;rw[List.foldl_cons];have e1:stp o (e,some k) l=(e.put o (stV o (some k) l),none):=by unfold stp;rw[st_none hr]
   rw[e1];exact spF_bad l os _
  | some y =>
   obtain⟨y,m⟩:=y;rw[gw hr] at h;have ih:=spF_none l os _ m h;unfold spF at ih |-;rw[List.foldl_cons];have e1:stp o (e,some k) l=(e.put o y,some m):=by unfold stp;rw[(st_some hr).1,(st_some hr).2]
   rw[e1];exact ih
def lpR (fs:List Bool)(l:List Int)(st:Option Nat):Nat->List Int × Option Nat
 | 0=>([0,0,0,0,0],st)
 | i+1=>if fs.getD i false=true then((lpR fs l st i).1.set i (numV (lpR fs l st i).2 l),numS (lpR fs l st i).2 l) else lpR fs l st i
theorem gO (fs:List Bool)(l:List Int)(st:Option Nat):∀i,(lpR fs l st i).1.length=5
 | 0=>rfl
 | i+1=>by
  rw[lpR];split
  ·rw[List.length_set];exact gO fs l st i
  ·exact gO fs l st i
theorem lpR_yes {fs:List Bool}{l:List Int}{st:Option Nat}{i:Nat}(h:fs.getD i false=true):lpR fs l st (i+1)=((lpR fs l st i).1.set i (numV (lpR fs l st i).2 l),numS (lpR fs l st i).2 l):=by rw[lpR,if_pos h]
theorem lpR_no {fs:List Bool}{l:List Int}{st:Option Nat}{i:Nat}(h:fs.getD i false=false):lpR fs l st (i+1)=lpR fs l st i:=by rw[lpR,if_neg (by rw[h];decide)]
def finE (e:Ev)(ns:List Int):Ev:={ e with id:=ns.getD 0 0,other:=ns.getD 1 0,qty:=ns.getD 2 0,price:=ns.getD 3 0,reason:=ns.getD 4 0 }
def preE (kd:Int)(k:Nat)(l:List Int):Ev × Option Nat:=
 if kd=1 then stp 8 (stp 7 (stp 5 (stp 4 (stp 3 (stp 2 (ev0 1,some k) l) l) l) l) l) l
 else if kd=2 then stp 8 (stp 7 (stp 6 (stp 5 (stp 4 (stp 3 (stp 2 (stp 1 (ev0 2,some k) l) l) l) l) l) l) l) l
 else(ev0 kd,some k)
theorem fin_eq (kd:Int)(k:Nat)(l:List Int)(h:1<=kd/\kd<=9):(finE (preE kd k l).1 (lpR (fldK kd) l (preE kd k l).2 5).1,(lpR (fldK kd) l (preE kd k l).2 5).2)=spF (shF kd) (ev0 kd,some k) l:=by
 rcases(show kd=1\/kd=2\/kd=3\/kd=4\/kd=5\/kd=6\/kd=7\/kd=8\/kd=9 by omega) with rfl|rfl|rfl|rfl|rfl|rfl|rfl|rfl|rfl
 all_goals rfl
def evT (r:Option (Ev × Nat)):Value:=match r with|none=>.tuple #[evV zEv,H 0,.bool false]|some (x,n)=>.tuple #[evV x,H n,.bool true]
theorem evT_end {l:List Int}{k n:Nat}{e:Ev}(X:k<l.length)(h:1<=l.getD k 0/\l.getD k 0<=9)(hs:spF (shF (l.getD k 0)) (ev0 (l.getD k 0),some (k+1)) l=(e,some n)):evT (evA l k) = .tuple #[evV e,H n,.bool true]:=by
 rw[evA_yes X ((shF_ne _).2 h)];cases hr:rdEs (shF (l.getD k 0)) (ev0 (l.getD k 0)) l (k+1) with
 | none =>
  have:=spF_none l _ _ _ hr;rw[hs] at this;cases this
 | some y =>
  obtain⟨y,m⟩:=y;have:=spF_some l _ _ _ _ _ hr;rw[hs] at this;cases this;rfl
theorem evT_bad {l:List Int}{k:Nat}(X:k<l.length)(h:1<=l.getD k 0/\l.getD k 0<=9)(hs:(spF (shF (l.getD k 0)) (ev0 (l.getD k 0),some (k+1)) l).2=none):evT (evA l k) = .tuple #[evV zEv,H 0,.bool false]:=by
 rw[evA_yes X ((shF_ne _).2 h)];cases hr:rdEs (shF (l.getD k 0)) (ev0 (l.getD k 0)) l (k+1) with
 | none=>rfl
 | some y =>
  obtain⟨y,m⟩:=y;have:=spF_some l _ _ _ _ _ hr;rw[this] at hs;cases hs
end Go.Proofs.YtbghmldggahjiaaGreatDoor
