/-.-/
import Derived.Test.YthhkapcbocgcoaaGreatDoorKj11
set_option linter.unusedVariables false
set_option maxHeartbeats 6400000
set_option maxRecDepth 100000
namespace Go.Proofs.YthhkapcbocgcoaaGreatDoor
open Go.RowKit
theorem gqY {x:List Bool}{i j:Nat}(h:i≠j):(x.set i true)[j]? = x[j]?:=yX h
theorem gqsY {x:List Bool}{i:Nat}(h:x[i]? = some false):(x.set i true)[i]? = some true:=List.getElem?_set_self (yH.1 h).1
def ancS (l:List Oper)(s:List Nat):List Nat:=s++s.flatMap fun i=>match l[i]? with
 | some o=>(o.after.toList.filter fun e=>Region.binds .any e).map fun e=>e.on
 | none=>[]
def ancN (l:List Oper):Nat->List Nat->List Nat
 | 0,s=>s
 | n+1,s=>ancN l n (ancS l s).eraseDups
theorem ancS_true {l:List Oper}{x:List Bool}(hc:Closed l x){s:List Nat}(hs:∀i∈s,x[i]? = some true):∀i∈ancS l s,x[i]? = some true:=by
 intro i hi;rcases List.mem_append.1 hi with h|h
 ·exact hs i h
 ·obtain⟨k,hk,hm⟩:=List.mem_flatMap.1 h;split at hm
  ·next o Q =>
   obtain⟨e,he,rfl⟩:=List.mem_map.1 hm;obtain⟨he1,he2⟩:=List.mem_filter.1 he;exact hc k o Q (hs k hk) e (by simpa using he1) he2
  ·simp at hm
theorem ancN_true {l:List Oper}{x:List Bool}(hc:Closed l x):∀(n:Nat) (s:List Nat),(∀i∈s,x[i]? = some true)->∀i∈ancN l n s,x[i]? = some true
 | 0,s,hs=>hs
 | n+1,s,hs=>ancN_true hc n _ (fun i hi=>ancS_true hc hs i (List.mem_eraseDups.1 hi))
theorem zH {l:List Oper}{x:List Bool}(hc:Closed l x)(d i n:Nat)(hB:(ancN l d [n]).contains i=true)(hx:x.length=l.length)(hn:n<l.length)(hi:x[i]? = some false):x[n]? = some false:=by
 rcases fN hx hn with h|h
 ·exact h
 ·have:=ancN_true hc d [n] (by simpa using h) i (by simpa using hB);rw[hi] at this;cases this
structure RY (C:World->Nat->Value->Prop) (n:Nat) (ho:(Nat->Value)->World->Prop) (base:World) (x:List Bool) (f:Nat->Value) (W:World):Prop where
 b:x[n]? = some false->Below base.heap.size base W
 c:x[n]? = some false->∀j,x[j]? = some true->C W j (f j)
 m:x[n]? = some true->ho f W
section
variable {C:World->Nat->Value->Prop} {n:Nat} {ho:(Nat->Value)->World->Prop} {base W W':World} {x:List Bool} {f:Nat->Value}
theorem ry_start {k:Nat}{f:Nat->Value}(hk:n<k):RY C n ho base (List.replicate k false) f { base with drawn:=base.drawn+1 }:=
 ⟨fun _=>⟨rfl,rfl,rfl,Nat.le_refl _,fun _ _=>rfl⟩,fun _ j hj=>by rw[yJ] at hj;split at hj <;> simp at hj,fun h=>by rw[yJ] at h;split at h <;> simp at h⟩
theorem eL (h:RY C n ho base x f W)(i:Nat)(v:Value)(hn:x[n]? = some false)(jn:i≠n)(hv:C W i v):RY C n ho base (x.set i true) (upd f i v) W:=by
 refine⟨fun _=>h.b hn,fun _ j hj=>?_,fun e=>by rw[gqY jn,hn] at e;cases e⟩
 by_cases hji:j=i
 ·subst hji;rw[zo];exact hv
 ·rw[zk _ _ hji];rw[gqY (fun e=>hji e.symm)] at hj;exact h.c hn j hj
theorem ry_grow (hm:∀W W' j v,yn W W'->C W j v->C W' j v)(h:RY C n ho base x f W)(hn:x[n]? = some false)(E:yn W W'):RY C n ho base x f W':=
 ⟨fun _=>(h.b hn).trans (E.mono (h.b hn).size),fun _ j hj=>hm _ _ _ _ E (h.c hn j hj),fun e=>by rw[hn] at e;cases e⟩
theorem ry_write (h:RY C n ho base x f W)(hn:x[n]? = some false)(v:Value)(hq:ho (upd f n v) W'):RY C n ho base (x.set n true) (upd f n v) W':=
 ⟨fun e=>(by rw[gqsY hn] at e;cases e),fun e=>(by rw[gqsY hn] at e;cases e),fun _=>hq⟩
theorem ry_after (h:RY C n ho base x f W)(i:Nat)(v:Value)(hn:x[n]? = some true)(jn:i≠n)(hq:ho f W->ho (upd f i v) W):RY C n ho base (x.set i true) (upd f i v) W:=
 ⟨fun e=>(by rw[gqY jn,hn] at e;cases e),fun e=>(by rw[gqY jn,hn] at e;cases e),fun _=>hq (h.m hn)⟩
end
def C7o (b off n cap i:Nat):Nat->Value->Prop
 | 1,v=>v = .slice (some (J b off)) n cap
 | 2,v=>v=H i
 | 3,v=>v = .slice (some (J b off)) i cap
 | 5,v=>v = .slice (some (J b off)) n cap
 | 6,v=>v=H i
 | 7,v=>v=H ((i:Int)+1)
 | 8,v=>∃ad c,v = .slice (some ad) (n-(i+1)) c/\(i+1<n->ad=(J b (off+(i+1)*6)))
 | _,_=>True
theorem lT (b off cap:Nat)(l:List Od)(i:Nat)(w:World)(hc:∀j c,l[j]? = some c->w.rangeAt b (off+j*6) c.vs)(E:b<w.heap.size)(hil:i<l.length)(ur:l.length<=cap)(hn:l.length<=1000) :
  Calls Tryz.prog 38 #[.slice (some (J b off)) l.length cap,H i] w fun e w'=>∃v',e = .returned v'/\ORow w' w.heap.size v' (l.take i++l.drop (i+1))/\yn w w':=by
 obtain⟨i0,vk,uI,uG,uZ⟩:=info_parts Tryz.infoOrder;have HC:=Z hc;clear hc;have hicp:i<=cap:=by omega
 have hi1:i+1<=l.length:=by omega
 have hi1':(i:Int)+1<=l.length:=by omega
 have qW:(i:Int)<l.length:=by omega
 have hige:(0:Int)<=i:=by omega
 have hlcp:(l.length:Int)<=cap:=by omega
 have h0i:(0:Int)<=(i:Int)+1:=by omega
 go_enter Tryz.func38,Tryz.ntmps38;go_wp2_with fail;refine iA (R7A (.slice none 0 0) w (C7o b off l.length cap i) (l.take i) (l.take i++l.drop (i+1)) (fun f=>{ tmps:=#[.slice (some (J b off)) l.length cap,H i,M,M,f 10,f 0,f 1,f 2,f 3,f 4,f 5,f 6,f 7,f 8,f 9],defers:=[] })) (by kernel_rfl) ?_ ?_ ?_
 ·exact⟨fun j=>if j=10 then .slice none 0 0 else M,rfl,⟨⟨rfl,rfl,rfl,Nat.le_refl _,fun _ _=>rfl⟩,fun j hj=>by rw[yJ] at hj;split at hj <;> simp at hj,fun _=>rfl,by simp,by simp,by simp,by simp,by simp,by simp,by simp⟩⟩
 ·rintro x zb V ⟨f,rfl,L⟩ hx xS;have xq:=eE xS hx (acyc _ (by kernel_rfl));have k9:x[9]? = some true:=xq 9 (by simp);have k10:x[10]? = some true:=xq 10 (by simp);have co:=Z (L.m9 k9);have uW:f 10=f 9:=L.m10 k10;have xK:=Z L.bel;simp only[uW];generalize f 9=v9 at co |-;clear L xq k9 k10 uW xS hx;go_wp2_with fail;go_ret;exact⟨_,rfl,U co,U xK⟩
 ·rintro x zb V i' o' ⟨f,rfl,L⟩ hx Q xu R;have jf:=Z L
  match i',Q with
  | 0,Q =>
   cases Q;clear L R;go_simp;exact⟨upd f 0 (.slice (some (J V.heap.size 0)) 0 0),by simp[upd],r7_0 (U jf) xu (fun _=>trivial)⟩
  | 1,Q =>
   cases Q;clear L R;go_simp;exact⟨upd f 1 (.slice (some (J b off)) l.length cap),by simp[upd],fj (U jf) 1 _ rfl (by decide) (by decide) (by decide) (by decide)⟩
  | 2,Q =>
   cases Q;clear L R;go_simp;exact⟨upd f 2 (H i),by simp[upd],fj (U jf) 2 _ rfl (by decide) (by decide) (by decide) (by decide)⟩
  | 3,Q =>
   cases Q;have g1:C7o b off l.length cap i 1 (f 1):=L.c 1 (ye R 1 rfl);have g2:C7o b off l.length cap i 2 (f 2):=L.c 2 (ye R 2 rfl);simp only[C7o] at g1 g2;clear L R;go_simp;exact⟨upd f 3 (.slice (some (J b off)) i cap),by simp[upd,g1,g2],fj (U jf) 3 _ rfl (by decide) (by decide) (by decide) (by decide)⟩
  | 4,Q =>
   cases Q;have g3:C7o b off l.length cap i 3 (f 3):=L.c 3 (ye R 3 rfl);have k0:x[0]? = some true:=R ⟨0,.data⟩ (by simp) rfl;have HCV:Hid (∀j c,l[j]? = some c->V.rangeAt b (off+j*6) c.vs):=fun j c hj=>zc (U HC j c hj) L.bel E;simp only[C7o] at g3;clear L R;rw[if_pos (by rfl)];refine wp_append_own V (.tmp 5) (.tmp 8) 25 rfl w.heap.size 65 i0 _ 6 56 Tryz.underlying25 vk uI uG uZ rfl (by decide) (f 0) 0 [] rfl ((U jf).m0 k0 xu) (J b off) i cap ((l.take i).flatMap Od.vs) g3 (by rw[zY Od.len,List.length_take];congr 1;omega) (by simpa using ie (W:=V) (g:=b) (off:=off) (l:=l) (U HCV) 0 i) (fM _) (by unfold maxLen;omega) (by omega) (U jf).bel.size ?_;intro v' w' xY uR _;refine⟨upd f 4 v',rfl,r7_4 (U jf) k0 xu (fun _=>trivial) ?_ uR⟩;have xC:(l.take i).length=0+i:=by rw[List.length_take];omega
   show w'.ownsRow _ _ _ _ (l.take i).length _;rw[xC];simpa using xY
  | 5,Q =>
   cases Q;clear L R;go_simp;exact⟨upd f 5 (.slice (some (J b off)) l.length cap),by simp[upd],fj (U jf) 5 _ rfl (by decide) (by decide) (by decide) (by decide)⟩
  | 6,Q =>
   cases Q;clear L R;go_simp;exact⟨upd f 6 (H i),by simp[upd],fj (U jf) 6 _ rfl (by decide) (by decide) (by decide) (by decide)⟩
  | 7,Q =>
   cases Q;have g6:C7o b off l.length cap i 6 (f 6):=L.c 6 (ye R 6 rfl);simp only[C7o] at g6;have pq:IntKind.i64.wrap ((i:Int)+1)=(i:Int)+1:=by rw[IntKind.wrap_i64];omega
   clear L R;go_simp;exact⟨upd f 7 (H ((i:Int)+1)),by simp[upd,g6],fj (U jf) 7 _ rfl (by decide) (by decide) (by decide) (by decide)⟩
  | 8,Q =>
   cases Q;have g5:C7o b off l.length cap i 5 (f 5):=L.c 5 (ye R 5 rfl);have g7:C7o b off l.length cap i 7 (f 7):=L.c 7 (ye R 7 rfl);simp only[C7o] at g5 g7;clear L R
   by_cases hcp:cap=i+1
   ·subst hcp;go_simp;exact⟨upd f 8 (.slice (some (J b off)) (l.length-(i+1)) 0),by simp[upd,g5,g7];omega,fj (U jf) 8 _ ⟨_,_,rfl,fun h=>by omega⟩ (by decide) (by decide) (by decide) (by decide)⟩
   ·rw[if_pos (by rfl)];unfold Oper.wp;go_simp;exact⟨upd f 8 (.slice (some (J b (off+(i+1)*6))) (l.length-(i+1)) (cap-(i+1))),by simp[upd,g5,g7],fj (U jf) 8 _ ⟨_,_,rfl,fun h=>rfl⟩ (by decide) (by decide) (by decide) (by decide)⟩
  | 9,Q =>
   cases Q;have g8:C7o b off l.length cap i 8 (f 8):=L.c 8 (ye R 8 rfl);have k4:x[4]? = some true:=R ⟨4,.data⟩ (by simp) rfl;have HCV:Hid (∀j c,l[j]? = some c->V.rangeAt b (off+j*6) c.vs):=fun j c hj=>zc (U HC j c hj) L.bel E;obtain⟨ad8,c8,g8,had⟩:=g8;clear L R
   have hsrc8:∀j u,((l.drop (i+1)).flatMap Od.vs)[j]? = some u->V.cell? (ad8.add j)=some u:=by
    intro j u hu
    by_cases xM:i+1<l.length
    ·rw[had xM];have:=ie (W:=V) (g:=b) (off:=off) (l:=l) (U HCV) (i+1) (l.length-(i+1)) j u (by rw[xa (by simp)];exact hu);simpa using this
    ·rw[xb (by omega)] at hu;simp at hu
   rw[if_pos (by rfl)];refine wp_append_own V (.tmp 9) (.tmp 13) 25 rfl w.heap.size 65 i0 _ 6 56 Tryz.underlying25 vk uI uG uZ rfl (by decide) (f 4) (l.take i).length ((l.take i).flatMap Od.vs) rfl ((U jf).m4 k4 xu) ad8 (l.length-(i+1)) c8 ((l.drop (i+1)).flatMap Od.vs) g8 (by rw[zY Od.len,List.length_drop]) hsrc8 (fM _) (by unfold maxLen;rw[List.length_take];omega) (by rw[List.length_take];omega) (U jf).bel.size ?_;intro v' w' xY uR _;refine⟨upd f 9 v',rfl,r7_9 (U jf) k4 xu (fun _=>trivial) ?_ uR⟩;show w'.ownsRow _ _ _ _ (l.take i++l.drop (i+1)).length _;rw[yQ,List.length_drop,List.flatMap_append];exact xY
  | 10,Q =>
   cases Q
   have hA:∀j,j<10->x[j]? = some true:=fun j hj=>R ⟨j,.phase⟩ (by
    match j,hj with
    | 0,_=>simp
    | 1,_=>simp
    | 2,_=>simp
    | 3,_=>simp
    | 4,_=>simp
    | 5,_=>simp
    | 6,_=>simp
    | 7,_=>simp
    | 8,_=>simp
    | 9,_=>simp
    | n+10,h=>omega) rfl
   clear L R;go_simp;exact⟨upd f 10 (f 9),by simp[upd],r7_10 (U jf) hA xu (fun _=>trivial)⟩
  | n+11,Q=>simp at Q
end Go.Proofs.YthhkapcbocgcoaaGreatDoor
