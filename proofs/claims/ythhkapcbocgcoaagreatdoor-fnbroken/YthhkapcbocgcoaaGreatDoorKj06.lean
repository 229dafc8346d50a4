/-.-/
import Derived.Test.YthhkapcbocgcoaaGreatDoorKj02
import Derived.Test.YthhkapcbocgcoaaGreatDoorKj04
import Derived.Test.YthhkapcbocgcoaaGreatDoorKj05
set_option linter.unusedVariables false
set_option maxHeartbeats 6400000
set_option maxRecDepth 100000
namespace Go.Proofs.YthhkapcbocgcoaaGreatDoor
open Go.RowKit
def eZ (b:Nat):Value:=.agg #[.func (.func 168) #[I b 0] #[],.func (.func 169) #[I b 0] #[],.func (.func 170) #[I b 0] #[]]
theorem ask_s (b:Nat)(w:World) :
  Calls Tryz.prog 124 #[I b 0] w fun e w'=>e=ym (eZ b)/\yn w w':=by
 have hmf:∀(fn:Fn) (first cap:Array Value) (w:World),(Instr.makeFunc fn first cap).run Tryz.prog w = .ok (.func fn first cap) w:=fun _ _ _ _=>rfl;go_enter Tryz.func124,Tryz.ntmps124;go_wp2_with fail;go_returns;refine⟨rfl,?_⟩;go_grown
def idsR (next:Int):Int->List Od->Bool
 | _,[]=>true
 | last,o::r=>decide (last<o.id)&&decide (o.id<next)&&idsR next o.id r
theorem idsRise_any (next:Int)(v:Value)(l:List Od)(w:World)(hr:RdR Od.vs 6 w v l) :
  Calls Tryz.prog 73 #[.agg #[H next,v]] w fun e w'=>e=ym (.bool (idsR next 0 l))/\yn w w':=by
 obtain⟨a,cap,rfl,xC,hc⟩:=hr
 have xt:∀(k:Nat) (c:Od),l[k]? = some c->∃b off,a=some (J b off)/\b<w.heap.size/\w.rangeAt b (off+k*6) c.vs:=by
  intro k c hk;obtain⟨b,off,D,Y,h3⟩:=hc (by intro h;rw[h] at hk;simp at hk);exact⟨b,off,D,Y,h3 k c hk⟩
 have HC:=Z xt;clear xt hc;have ud:Hid (yn w (w.alloc (mq #[H next,.slice a l.length cap] 27))):=mn _ _;have aR:Hid ((w.alloc (mq #[H next,.slice a l.length cap] 27)).cell? (yq w 0)=some (H next)/\w.heap.size<(w.alloc (mq #[H next,.slice a l.length cap] 27)).heap.size):=⟨zm w [H next,.slice a l.length cap] 27 0 _ rfl,by rw[zf];omega⟩;go_enter Tryz.func73,Tryz.ntmps73;go_wp2_with fail;generalize (w.alloc (mq #[H next,.slice a l.length cap] 27))=W1 at ud aR |-;have xJ:=(U aR).2;go_loopw [3,9] (fun lv iv wr=>∃(k:Nat) (last:Int),lv=H last/\k<=l.length/\iv=H k/\Hid (idsR next 0 l=idsR next last (l.drop k))/\yn W1 wr) (fun _ iv _=>l.length-(intOf iv).toNat)
 case atStart=>exact⟨0,0,rfl,Nat.zero_le _,rfl,by simp[Hid],Below.refl _ _⟩
 case round =>
  obtain⟨k,last,rfl,hk,rfl,hids,xo⟩:=hrel;have HB:=Z xo;clear xo
  by_cases xM:k<l.length
  ·obtain⟨c,vf⟩:∃c,l[k]? = some c:=⟨_,yI xM⟩
   have ji:l.drop k=c::l.drop (k+1):=by
    obtain⟨D,rfl⟩:=yH.1 vf;exact xd D
   have HI:Hid (idsR next 0 l=(decide (last<c.id)&&decide (c.id<next)&&idsR next c.id (l.drop (k+1)))):=by
    have:=U hids;rw[ji] at this;exact this
   obtain⟨b,off,rfl,E,xn⟩:=U HC k c vf;obtain⟨g0,g1,g2,g3,g4,g5⟩:=zF (zc xn ((U ud).trans ((U HB).mono (U ud).size)) E);have hbox:=((U HB).cell (p:=(yq w 0)) xJ).trans (U aR).1;have uL:(k:Int)<l.length:=by omega
   have bB:=(U HB).size;have hboxW:(wr.alloc (mq (yw c.id c.side c.ticks c.left c.life c.tag).toArray 65)).cell? (yq w 0)=some (H next):=(Below.cell ((Below.refl wr.heap.size wr).alloc ya _) (p:=(yq w 0)) (show w.heap.size<wr.heap.size by omega)).trans hbox;clear vf xn E ji hids
   by_cases D:last<c.id
   ·have h1':decide (c.id<=last)=false:=by simpa using D
    by_cases Y:c.id<next
    ·have dD:¬ (next<=c.id):=by omega
     have HN:Hid (idsR next 0 l=idsR next c.id (l.drop (k+1))):=by
      have:=U HI;rw[decide_eq_true D,decide_eq_true Y,Bool.true_and,Bool.true_and] at this;exact this
     go_wp2_with fail;go_roundw
     case rel=>exact⟨k+1,c.id,rfl,by omega,by go_num,U HN,(U HB).alloc bB _⟩
     case measure=>simp[intOf];omega
    ·have dD:next<=c.id:=by omega
     have HN:Hid (idsR next 0 l=false):=by
      have:=U HI;rw[decide_eq_false Y,Bool.and_false,Bool.false_and] at this;exact this
     go_wp2_with fail;go_ret;exact⟨zp (U HN).symm,(U ud).trans (((U HB).alloc bB _).mono (U ud).size)⟩
   ·have h1':decide (c.id<=last)=true:=by simp;omega
    have HN:Hid (idsR next 0 l=false):=by
     have:=U HI;rw[decide_eq_false D,Bool.false_and,Bool.false_and] at this;exact this
    go_wp2_with fail;go_ret;exact⟨zp (U HN).symm,(U ud).trans (((U HB).alloc bB _).mono (U ud).size)⟩
  ·go_wp2_with fail;go_ret;have h:=U hids;rw[xb (by omega)] at h;exact⟨zp (by rw[h];rfl),(U ud).trans ((U HB).mono (U ud).size)⟩
theorem lM (next:Int)(v:Value)(l:List Od)(w:World)(hr:RdR Od.vs 6 w v l)(hn:l.length<=20)(hl:∀o'∈l,0<=o'.left/\o'.left<=1000000) :
  Calls Tryz.prog 75 #[.agg #[H next,v],H 1] w fun e w' =>
   ∃b,e=ym (eX b)/\eh 197 true w' b 1 (zv l 1)/\w.heap.size<=b/\yn w w':=by
 have HR:=Z hr;have HL:=Z hl;obtain⟨a,cap,rfl,xC,hc⟩:=hr;have xJ:=zf w (mq #[H next,.slice a l.length cap] 27);have r1:=zm (w.alloc (mq #[H next,.slice a l.length cap] 27)) [.nilFunc,.nilFunc,.nilFunc] 129;have t1:=gk (n:=3) (heap_alloc_new (w.alloc (mq #[H next,.slice a l.length cap] 27)) (mq #[.nilFunc,.nilFunc,.nilFunc] 129)) (by simp);rw[xJ] at r1 t1;have ug:((w.alloc (mq #[H next,.slice a l.length cap] 27)).alloc (mq #[.nilFunc,.nilFunc,.nilFunc] 129)).heap.size=w.heap.size+1+1:=by rw[zf,xJ]
 have ud:Hid (yn w ((w.alloc (mq #[H next,.slice a l.length cap] 27)).alloc (mq #[.nilFunc,.nilFunc,.nilFunc] 129))):=
  (mn _ _).alloc (by rw[xJ];omega) _
 have HX:Hid (_/\_):=⟨r1,t1⟩;have qf:=Z ug;clear r1 t1 xJ ug hc hl;go_enter Tryz.func75,Tryz.ntmps75;go_wp2_with fail;generalize ((w.alloc (mq #[H next,.slice a l.length cap] 27)).alloc (mq #[.nilFunc,.nilFunc,.nilFunc] 129))=W2 at ud HX qf |-;refine(plant_b _ l 1 W2 (zi (U HR) (U ud) ya) hn (U HL)).mono ?_;rintro e w1 ⟨rfl,htr,uw⟩;have ju:=Z htr;have uf:=Z uw;clear htr uw;go_wp2_with fail;refine(ask_b W2.heap.size w1).mono ?_;rintro e w2 ⟨rfl,xO⟩;have cB:=Z (zx (U ju) (xO.block _ (zL (U ju))));have pj:=(U uf).trans (xO.mono (U uf).size);obtain⟨x1,x2⟩:=U HX;have y1:=zc x1 pj (by rw[U qf];omega);have y2:=zl x2 pj (by rw[U qf];omega);have xv:=Z (mr (U ud) pj);have c0:w2.cell? (J (w.heap.size+1) 0)=some .nilFunc:=y1 0 _ rfl;have c1:w2.cell? (J (w.heap.size+1) 1)=some .nilFunc:=y1 1 _ rfl;have c2:w2.cell? (J (w.heap.size+1) 2)=some .nilFunc:=y1 2 _ rfl;have f0:w2.frozen? (J (w.heap.size+1) 0)=false:=(y2 0 (by omega)).2;have f1:w2.frozen? (J (w.heap.size+1) 1)=false:=(y2 1 (by omega)).2;have f2:w2.frozen? (J (w.heap.size+1) 2)=false:=(y2 2 (by omega)).2;clear xO pj x1 x2 y1 y2;unfold eX;generalize hF0:Value.func (.func 164) #[yp W2 0] #[]=F0;generalize hF1:Value.func (.func 165) #[yp W2 0] #[]=F1;generalize hF2:Value.func (.func 166) #[yp W2 0] #[]=F2
 have qK:∀(W:World) (o:Nat) (m:Mode),((store (J (w.heap.size+1) o) F0 m).run Tryz.prog W=stored Tryz.prog W (J (w.heap.size+1) o) F0 m)/\((store (J (w.heap.size+1) o) F1 m).run Tryz.prog W=stored Tryz.prog W (J (w.heap.size+1) o) F1 m)/\((store (J (w.heap.size+1) o) F2 m).run Tryz.prog W=stored Tryz.prog W (J (w.heap.size+1) o) F2 m):=fun W o m=>by
  subst hF0 hF1 hF2;exact⟨run_store _ W _ _ m rfl,run_store _ W _ _ m rfl,run_store _ W _ _ m rfl⟩
 have hst0:=fun W o m=>(qK W o m).1;have hst1:=fun W o m=>(qK W o m).2.1;have hst2:=fun W o m=>(qK W o m).2.2;clear qK;go_wp2_with fail;have hn01:((J (w.heap.size+1) 0):Addr)≠(J (w.heap.size+1) 1):=fun e=>by simp at e
 have hn02:((J (w.heap.size+1) 0):Addr)≠(J (w.heap.size+1) 2):=fun e=>by simp at e
 have hn12:((J (w.heap.size+1) 1):Addr)≠(J (w.heap.size+1) 2):=fun e=>by simp at e
 have d2:(((w2.setCell (J (w.heap.size+1) 0) F0).setCell (J (w.heap.size+1) 1) F1).setCell (J (w.heap.size+1) 2) F2).cell? (J (w.heap.size+1) 2)=some F2:=
  yN _ _ _ ((yM _ _ _ _ hn12).trans ((yM _ _ _ _ hn02).trans c2))
 have d1:(((w2.setCell (J (w.heap.size+1) 0) F0).setCell (J (w.heap.size+1) 1) F1).setCell (J (w.heap.size+1) 2) F2).cell? (J (w.heap.size+1) 1)=some F1:=
  (yM _ _ _ _ hn12.symm).trans (yN _ _ _ ((yM _ _ _ _ hn01).trans c1))
 have d0:(((w2.setCell (J (w.heap.size+1) 0) F0).setCell (J (w.heap.size+1) 1) F1).setCell (J (w.heap.size+1) 2) F2).cell? (J (w.heap.size+1) 0)=some F0:=
  (yM _ _ _ _ hn02.symm).trans ((yM _ _ _ _ hn01.symm).trans (yN _ _ _ c0))
 have xr:W2.heap.size≠w.heap.size+1:=by rw[U qf];omega
 have HT5:=Z (zx (U cB) (w':=((w2.setCell (J (w.heap.size+1) 0) F0).setCell (J (w.heap.size+1) 1) F1).setCell (J (w.heap.size+1) 2) F2) ((yT _ _ _ _ xr).trans ((yT _ _ _ _ xr).trans (yT _ _ _ _ xr))));have ui:=Z ((((U xv).setCell (p:=(J (w.heap.size+1) 0)) (by simp) F0).setCell (p:=(J (w.heap.size+1) 1)) (by simp) F1).setCell (p:=(J (w.heap.size+1) 2)) (by simp) F2);generalize ((w2.setCell (J (w.heap.size+1) 0) F0).setCell (J (w.heap.size+1) 1) F1).setCell (J (w.heap.size+1) 2) F2=W5 at *
 try simp only[Exit.inBlock,Exit.then]
 refine bodyPost_ret (by simp[results,Tryz.results75,go_sem,d0,d1,d2];try rfl) rfl ?_;refine⟨W2.heap.size,?_,U HT5,by rw[U qf];omega,U ui⟩;subst hF0 hF1 hF2;rfl
theorem lA (next:Int)(sd:Int)(uX:¬ sd=1)(v:Value)(l:List Od)(w:World)(hr:RdR Od.vs 6 w v l)(hn:l.length<=20)(hl:∀o'∈l,0<=o'.left/\o'.left<=1000000) :
  Calls Tryz.prog 75 #[.agg #[H next,v],H sd] w fun e w' =>
   ∃b,e=ym (eZ b)/\eh 200 false w' b sd (zv l sd)/\w.heap.size<=b/\yn w w':=by
 have HR:=Z hr;have HL:=Z hl;obtain⟨a,cap,rfl,xC,hc⟩:=hr;have xJ:=zf w (mq #[H next,.slice a l.length cap] 27);have r1:=zm (w.alloc (mq #[H next,.slice a l.length cap] 27)) [.nilFunc,.nilFunc,.nilFunc] 129;have t1:=gk (n:=3) (heap_alloc_new (w.alloc (mq #[H next,.slice a l.length cap] 27)) (mq #[.nilFunc,.nilFunc,.nilFunc] 129)) (by simp);rw[xJ] at r1 t1;have ug:((w.alloc (mq #[H next,.slice a l.length cap] 27)).alloc (mq #[.nilFunc,.nilFunc,.nilFunc] 129)).heap.size=w.heap.size+1+1:=by rw[zf,xJ]
 have ud:Hid (yn w ((w.alloc (mq #[H next,.slice a l.length cap] 27)).alloc (mq #[.nilFunc,.nilFunc,.nilFunc] 129))):=
  (mn _ _).alloc (by rw[xJ];omega) _
 have HX:Hid (_/\_):=⟨r1,t1⟩;have qf:=Z ug;clear r1 t1 xJ ug hc hl;go_enter Tryz.func75,Tryz.ntmps75;go_wp2_with fail;generalize ((w.alloc (mq #[H next,.slice a l.length cap] 27)).alloc (mq #[.nilFunc,.nilFunc,.nilFunc] 129))=W2 at ud HX qf |-;refine(plant_s _ l sd W2 (zi (U HR) (U ud) ya) hn (U HL)).mono ?_;rintro e w1 ⟨rfl,htr,uw⟩;have ju:=Z htr;have uf:=Z uw;clear htr uw;go_wp2_with fail;refine(ask_s W2.heap.size w1).mono ?_;rintro e w2 ⟨rfl,xO⟩;have cB:=Z (zx (U ju) (xO.block _ (zL (U ju))));have pj:=(U uf).trans (xO.mono (U uf).size);obtain⟨x1,x2⟩:=U HX;have y1:=zc x1 pj (by rw[U qf];omega);have y2:=zl x2 pj (by rw[U qf];omega);have xv:=Z (mr (U ud) pj);have c0:w2.cell? (J (w.heap.size+1) 0)=some .nilFunc:=y1 0 _ rfl;have c1:w2.cell? (J (w.heap.size+1) 1)=some .nilFunc:=y1 1 _ rfl;have c2:w2.cell? (J (w.heap.size+1) 2)=some .nilFunc:=y1 2 _ rfl;have f0:w2.frozen? (J (w.heap.size+1) 0)=false:=(y2 0 (by omega)).2;have f1:w2.frozen? (J (w.heap.size+1) 1)=false:=(y2 1 (by omega)).2;have f2:w2.frozen? (J (w.heap.size+1) 2)=false:=(y2 2 (by omega)).2;clear xO pj x1 x2 y1 y2;unfold eZ;generalize hF0:Value.func (.func 168) #[yp W2 0] #[]=F0;generalize hF1:Value.func (.func 169) #[yp W2 0] #[]=F1;generalize hF2:Value.func (.func 170) #[yp W2 0] #[]=F2
 have qK:∀(W:World) (o:Nat) (m:Mode),((store (J (w.heap.size+1) o) F0 m).run Tryz.prog W=stored Tryz.prog W (J (w.heap.size+1) o) F0 m)/\((store (J (w.heap.size+1) o) F1 m).run Tryz.prog W=stored Tryz.prog W (J (w.heap.size+1) o) F1 m)/\((store (J (w.heap.size+1) o) F2 m).run Tryz.prog W=stored Tryz.prog W (J (w.heap.size+1) o) F2 m):=fun W o m=>by
  subst hF0 hF1 hF2;exact⟨run_store _ W _ _ m rfl,run_store _ W _ _ m rfl,run_store _ W _ _ m rfl⟩
 have hst0:=fun W o m=>(qK W o m).1;have hst1:=fun W o m=>(qK W o m).2.1;have hst2:=fun W o m=>(qK W o m).2.2;clear qK;go_wp2_with fail;have hn01:((J (w.heap.size+1) 0):Addr)≠(J (w.heap.size+1) 1):=fun e=>by simp at e
 have hn02:((J (w.heap.size+1) 0):Addr)≠(J (w.heap.size+1) 2):=fun e=>by simp at e
 have hn12:((J (w.heap.size+1) 1):Addr)≠(J (w.heap.size+1) 2):=fun e=>by simp at e
 have d2:(((w2.setCell (J (w.heap.size+1) 0) F0).setCell (J (w.heap.size+1) 1) F1).setCell (J (w.heap.size+1) 2) F2).cell? (J (w.heap.size+1) 2)=some F2:=
  yN _ _ _ ((yM _ _ _ _ hn12).trans ((yM _ _ _ _ hn02).trans c2))
 have d1:(((w2.setCell (J (w.heap.size+1) 0) F0).setCell (J (w.heap.size+1) 1) F1).setCell (J (w.heap.size+1) 2) F2).cell? (J (w.heap.size+1) 1)=some F1:=
  (yM _ _ _ _ hn12.symm).trans (yN _ _ _ ((yM _ _ _ _ hn01).trans c1))
 have d0:(((w2.setCell (J (w.heap.size+1) 0) F0).setCell (J (w.heap.size+1) 1) F1).setCell (J (w.heap.size+1) 2) F2).cell? (J (w.heap.size+1) 0)=some F0:=
  (yM _ _ _ _ hn02.symm).trans ((yM _ _ _ _ hn01.symm).trans (yN _ _ _ c0))
 have xr:W2.heap.size≠w.heap.size+1:=by rw[U qf];omega
 have HT5:=Z (zx (U cB) (w':=((w2.setCell (J (w.heap.size+1) 0) F0).setCell (J (w.heap.size+1) 1) F1).setCell (J (w.heap.size+1) 2) F2) ((yT _ _ _ _ xr).trans ((yT _ _ _ _ xr).trans (yT _ _ _ _ xr))));have ui:=Z ((((U xv).setCell (p:=(J (w.heap.size+1) 0)) (by simp) F0).setCell (p:=(J (w.heap.size+1) 1)) (by simp) F1).setCell (p:=(J (w.heap.size+1) 2)) (by simp) F2);generalize ((w2.setCell (J (w.heap.size+1) 0) F0).setCell (J (w.heap.size+1) 1) F1).setCell (J (w.heap.size+1) 2) F2=W5 at *
 try simp only[Exit.inBlock,Exit.then]
 refine bodyPost_ret (by simp[results,Tryz.results75,go_sem,d0,d1,d2];try rfl) rfl ?_;refine⟨W2.heap.size,?_,U HT5,by rw[U qf];omega,U ui⟩;subst hF0 hF1 hF2;rfl
def hdO (q:List Od):Od:=(q.head?).getD zOd
def hdF (q:List Od):Bool:=(q.head?).isSome
theorem frOf_eq (q:List Od):frOf q = .tuple #[.agg (yw ((hdO q).id) ((hdO q).side) ((hdO q).ticks) ((hdO q).left) ((hdO q).life) ((hdO q).tag)).toArray,.bool (hdF q)]:=by
 unfold frOf hdO hdF;cases q.head? <;> rfl
def meetB (q1 q2:List Od):Bool:=hdF q1&&hdF q2&&decide ((hdO q2).ticks<=(hdO q1).ticks)
theorem sidesMeet_any (b1 b2:Nat)(sd1 sd2:Int)(s1 s2:List Od)(w:World)(D:eh 197 true w b1 sd1 s1)(Y:eh 200 false w b2 sd2 s2)(n1:s1.length<=20)(n2:s2.length<=20) :
  Calls Tryz.prog 77 #[eX b1,eZ b2] w fun e w'=>e=ym (.bool (meetB (quOf true s1) (quOf false s2)))/\yn w w':=by
 have H1:=Z D;have H2:=Z Y;have uw:=zL D;have xO:=zL Y;clear D Y;unfold eX eZ;have xJ:=zf w (mq #[.func (.func 164) #[I b1 0] #[],.func (.func 165) #[I b1 0] #[],.func (.func 166) #[I b1 0] #[]] 129);have r1:=zm (w.alloc (mq #[.func (.func 164) #[I b1 0] #[],.func (.func 165) #[I b1 0] #[],.func (.func 166) #[I b1 0] #[]] 129)) [.func (.func 168) #[I b2 0] #[],.func (.func 169) #[I b2 0] #[],.func (.func 170) #[I b2 0] #[]] 129;have ug:((w.alloc (mq #[.func (.func 164) #[I b1 0] #[],.func (.func 165) #[I b1 0] #[],.func (.func 166) #[I b1 0] #[]] 129)).alloc (mq #[.func (.func 168) #[I b2 0] #[],.func (.func 169) #[I b2 0] #[],.func (.func 170) #[I b2 0] #[]] 129)).heap.size=w.heap.size+1+1:=by rw[zf,xJ]
 have ud:Hid (yn w ((w.alloc (mq #[.func (.func 164) #[I b1 0] #[],.func (.func 165) #[I b1 0] #[],.func (.func 166) #[I b1 0] #[]] 129)).alloc (mq #[.func (.func 168) #[I b2 0] #[],.func (.func 169) #[I b2 0] #[],.func (.func 170) #[I b2 0] #[]] 129))):=(mn _ _).alloc (by rw[xJ];omega) _;rw[xJ] at r1;have HX:=Z (r1 0 _ rfl);have qf:=Z ug;clear r1 xJ ug;go_enter Tryz.func77,Tryz.ntmps77;go_wp2_with fail;generalize ((w.alloc (mq #[.func (.func 164) #[I b1 0] #[],.func (.func 165) #[I b1 0] #[],.func (.func 166) #[I b1 0] #[]] 129)).alloc (mq #[.func (.func 168) #[I b2 0] #[],.func (.func 169) #[I b2 0] #[],.func (.func 170) #[I b2 0] #[]] 129))=W2 at ud HX qf |-;refine(front_b b1 sd1 s1 W2 (zx (U H1) ((U ud).block _ uw)) n1).mono ?_;rintro e w1 ⟨rfl,xL⟩;rw[frOf_eq];have xI:=Z xL;have c0:=(xL.cell (p:=(J (w.heap.size+1) 0)) (by rw[U qf];simp)).trans (U HX);have hsz1:w.heap.size+2<=w1.heap.size:=by have:=xL.size;rw[U qf] at this;omega
 generalize pE:hdO (quOf true s1)=x;generalize pA:hdF (quOf true s1)=f1;have pQ:Hid (hdO (quOf true s1)=x/\hdF (quOf true s1)=f1):=⟨pE,pA⟩;clear xL pE pA;have c0':(w1.alloc (mq (yw x.id x.side x.ticks x.left x.life x.tag).toArray 65)).cell? (J (w.heap.size+1) 0) = _:=(Below.cell ((Below.refl w1.heap.size w1).alloc ya _) (p:=(J (w.heap.size+1) 0)) (show w.heap.size+1<w1.heap.size by omega)).trans c0;have uV:Hid (World.rangeAt (w1.alloc (mq (yw x.id x.side x.ticks x.left x.life x.tag).toArray 65)) w1.heap.size 0 x.vs):=zm w1 x.vs 65;have xF:Hid (yn W2 (w1.alloc (mq (yw x.id x.side x.ticks x.left x.life x.tag).toArray 65))):=(U xI).alloc (U xI).size _;have py:Hid ((w1.alloc (mq (yw x.id x.side x.ticks x.left x.life x.tag).toArray 65)).heap.size=w1.heap.size+1):=zf _ _;go_wp2_with fail;generalize (w1.alloc (mq (yw x.id x.side x.ticks x.left x.life x.tag).toArray 65))=W4 at c0' uV xF py |-;have HB04:=Z ((U ud).trans ((U xF).mono (U ud).size));refine(front_s b2 sd2 s2 W4 (zx (U H2) ((U HB04).block _ xO)) n2).mono ?_;rintro e w5 ⟨rfl,uc⟩;rw[frOf_eq];have ui:=Z (mr (U HB04) uc);obtain⟨-,-,t2,-⟩:=zF (zc (U uV) uc (by rw[U py];omega));have hsz5:w1.heap.size<w5.heap.size:=by have:=uc.size;rw[U py] at this;omega
 generalize bU:hdO (quOf false s2)=y;generalize hf2:hdF (quOf false s2)=f2;have pR:Hid (hdO (quOf false s2)=y/\hdF (quOf false s2)=f2):=⟨bU,hf2⟩;clear uc bU hf2;have t2':(w5.alloc (mq (yw y.id y.side y.ticks y.left y.life y.tag).toArray 65)).cell? (yq w1 (0+2)) = _:=(Below.cell ((Below.refl w5.heap.size w5).alloc ya _) (p:=(yq w1 (0+2))) hsz5).trans t2;have vZ:Hid (yn w (w5.alloc (mq (yw y.id y.side y.ticks y.left y.life y.tag).toArray 65))):=(U ui).alloc (U ui).size _
 have HM:Hid (meetB (quOf true s1) (quOf false s2)=(f1&&f2&&decide (y.ticks<=x.ticks))):=by
  show _ = _;rw[meetB,(U pQ).1,(U pQ).2,(U pR).1,(U pR).2]
 cases f1 <;> cases f2
 ·go_wp2_with fail;go_ret;exact⟨zp (U HM).symm,U vZ⟩
 ·go_wp2_with fail;go_ret;exact⟨zp (U HM).symm,U vZ⟩
 ·go_wp2_with fail;go_ret;exact⟨zp (U HM).symm,U vZ⟩
 ·go_wp2_with fail;go_ret;exact⟨zp (U HM).symm,U vZ⟩
def gE (b:Nat):List Value:=[.func (.func 164) #[I b 0] #[],.func (.func 165) #[I b 0] #[],.func (.func 166) #[I b 0] #[]]
def gW (b:Nat):List Value:=[.func (.func 168) #[I b 0] #[],.func (.func 169) #[I b 0] #[],.func (.func 170) #[I b 0] #[]]
abbrev Tb (w:World)(b:Nat)(q:List Od):Prop:=eh 197 true w b 1 q
abbrev Ts (w:World)(b:Nat)(q:List Od):Prop:=eh 200 false w b 2 q
structure RW9 (W0:World) (BV:Value) (q1 q2:List Od) (x:List Bool) (v33 v34 v35 v36 v5 v6:Value) (b1 b2 p5 p6:Nat) (w:World):Prop where
 bel:Below W0.heap.size W0 w
 c33:x[0]? = some true->v33=BV
 c35:x[2]? = some true->v35=BV
 c34:x[1]? = some true->v34=eX b1/\Tb w b1 q1
 c36:x[3]? = some true->v36=eZ b2/\Ts w b2 q2
 c5:x[4]? = some true->v5 = .pointer (some ⟨p5,0,none⟩)/\p5<w.heap.size/\W0.heap.size<=p5/\w.there p5 0 3
 c6:x[5]? = some true->v6 = .pointer (some ⟨p6,0,none⟩)/\p6<w.heap.size/\W0.heap.size<=p6/\w.there p6 0 3
 n15:x[1]? = some true->x[4]? = some true->b1≠p5
 n16:x[1]? = some true->x[5]? = some true->b1≠p6
 n25:x[3]? = some true->x[4]? = some true->b2≠p5
 n26:x[3]? = some true->x[5]? = some true->b2≠p6
 n56:x[4]? = some true->x[5]? = some true->p5≠p6
 s5:x[6]? = some true->(x[1]? = some true/\x[4]? = some true)/\w.rangeAt p5 0 (gE b1)
 s6:x[7]? = some true->(x[3]? = some true/\x[5]? = some true)/\w.rangeAt p6 0 (gW b2)
section
variable {W0 w w':World} {BV:Value} {q1 q2:List Od} {x:List Bool} {v33 v34 v35 v36 v5 v6:Value} {b1 b2 p5 p6:Nat}
theorem rw9_grow (h:RW9 W0 BV q1 q2 x v33 v34 v35 v36 v5 v6 b1 b2 p5 p6 w)(E:yn w w'):RW9 W0 BV q1 q2 x v33 v34 v35 v36 v5 v6 b1 b2 p5 p6 w' where
 bel:=h.bel.trans (E.mono h.bel.size)
 c33:=h.c33
 c35:=h.c35
 c34:=fun hx=>⟨(h.c34 hx).1,zx (h.c34 hx).2 (E.block _ (zL (h.c34 hx).2))⟩
 c36:=fun hx=>⟨(h.c36 hx).1,zx (h.c36 hx).2 (E.block _ (zL (h.c36 hx).2))⟩
 c5:=fun hx=>⟨(h.c5 hx).1,yK (h.c5 hx).2.1 E.size,(h.c5 hx).2.2.1,zl (h.c5 hx).2.2.2 E (h.c5 hx).2.1⟩
 c6:=fun hx=>⟨(h.c6 hx).1,yK (h.c6 hx).2.1 E.size,(h.c6 hx).2.2.1,zl (h.c6 hx).2.2.2 E (h.c6 hx).2.1⟩
 n15:=h.n15
 n16:=h.n16
 n25:=h.n25
 n26:=h.n26
 n56:=h.n56
 s5:=fun hx=>⟨(h.s5 hx).1,zc (h.s5 hx).2 E (h.c5 (h.s5 hx).1.2).2.1⟩
 s6:=fun hx=>⟨(h.s6 hx).1,zc (h.s6 hx).2 E (h.c6 (h.s6 hx).1.2).2.1⟩
theorem gse {x:List Bool}{i j:Nat}(h:i≠j):(x.set i true)[j]? = x[j]?:=yX h
theorem rw9_0 (h:RW9 W0 BV q1 q2 x v33 v34 v35 v36 v5 v6 b1 b2 p5 p6 w):RW9 W0 BV q1 q2 (x.set 0 true) BV v34 v35 v36 v5 v6 b1 b2 p5 p6 w:=by
 constructor <;> try simp only[gse (show 0≠1 by decide),gse (show 0≠2 by decide),gse (show 0≠3 by decide),gse (show 0≠4 by decide),gse (show 0≠5 by decide),gse (show 0≠6 by decide),gse (show 0≠7 by decide)]
 ·exact h.bel
 ·exact fun _=>by first|rfl|trivial
 ·exact h.c35
 ·exact h.c34
 ·exact h.c36
 ·exact h.c5
 ·exact h.c6
 ·exact h.n15
 ·exact h.n16
 ·exact h.n25
 ·exact h.n26
 ·exact h.n56
 ·exact h.s5
 ·exact h.s6
theorem rw9_2 (h:RW9 W0 BV q1 q2 x v33 v34 v35 v36 v5 v6 b1 b2 p5 p6 w):RW9 W0 BV q1 q2 (x.set 2 true) v33 v34 BV v36 v5 v6 b1 b2 p5 p6 w:=by
 constructor <;> try simp only[gse (show 2≠0 by decide),gse (show 2≠1 by decide),gse (show 2≠3 by decide),gse (show 2≠4 by decide),gse (show 2≠5 by decide),gse (show 2≠6 by decide),gse (show 2≠7 by decide)]
 ·exact h.bel
 ·exact h.c33
 ·exact fun _=>by first|rfl|trivial
 ·exact h.c34
 ·exact h.c36
 ·exact h.c5
 ·exact h.c6
 ·exact h.n15
 ·exact h.n16
 ·exact h.n25
 ·exact h.n26
 ·exact h.n56
 ·exact h.s5
 ·exact h.s6
theorem rw9_1 (h:RW9 W0 BV q1 q2 x v33 v34 v35 v36 v5 v6 b1 b2 p5 p6 w)(h6:x[6]? ≠ some true){b:Nat}(E:yn w w')(qS:w.heap.size<=b)(ht:Tb w' b q1) :
  RW9 W0 BV q1 q2 (x.set 1 true) v33 (eX b) v35 v36 v5 v6 b b2 p5 p6 w':=by
 have g:=rw9_grow h E;constructor <;> try simp only[gse (show 1≠0 by decide),gse (show 1≠2 by decide),gse (show 1≠3 by decide),gse (show 1≠4 by decide),gse (show 1≠5 by decide),gse (show 1≠6 by decide),gse (show 1≠7 by decide)]
 ·exact g.bel
 ·exact g.c33
 ·exact g.c35
 ·exact fun _=>⟨by first|rfl|trivial,ht⟩
 ·exact g.c36
 ·exact g.c5
 ·exact g.c6
 ·exact fun _ h4=>by have:=(h.c5 h4).2.1;omega
 ·exact fun _ h5=>by have:=(h.c6 h5).2.1;omega
 ·exact g.n25
 ·exact g.n26
 ·exact g.n56
 ·exact fun hx=>absurd hx h6
 ·exact g.s6
theorem rw9_3 (h:RW9 W0 BV q1 q2 x v33 v34 v35 v36 v5 v6 b1 b2 p5 p6 w)(h7:x[7]? ≠ some true){b:Nat}(E:yn w w')(qS:w.heap.size<=b)(ht:Ts w' b q2) :
  RW9 W0 BV q1 q2 (x.set 3 true) v33 v34 v35 (eZ b) v5 v6 b1 b p5 p6 w':=by
 have g:=rw9_grow h E;constructor <;> try simp only[gse (show 3≠0 by decide),gse (show 3≠1 by decide),gse (show 3≠2 by decide),gse (show 3≠4 by decide),gse (show 3≠5 by decide),gse (show 3≠6 by decide),gse (show 3≠7 by decide)]
 ·exact g.bel
 ·exact g.c33
 ·exact g.c35
 ·exact g.c34
 ·exact fun _=>⟨by first|rfl|trivial,ht⟩
 ·exact g.c5
 ·exact g.c6
 ·exact g.n15
 ·exact g.n16
 ·exact fun _ h4=>by have:=(h.c5 h4).2.1;omega
 ·exact fun _ h5=>by have:=(h.c6 h5).2.1;omega
 ·exact g.n56
 ·exact g.s5
 ·exact fun hx=>absurd hx h7
theorem zW (w:World)(F:List Value)(t:TypeId):(w.alloc (Obj.cells F.toArray t)).there w.heap.size 0 F.length:=gk (heap_alloc_new w _) (by simp)
theorem rw9_4 (h:RW9 W0 BV q1 q2 x v33 v34 v35 v36 v5 v6 b1 b2 p5 p6 w)(h6:x[6]? ≠ some true)(t:TypeId) :
  RW9 W0 BV q1 q2 (x.set 4 true) v33 v34 v35 v36 (yp w 0) v6 b1 b2 w.heap.size p6 (w.alloc (mq #[.nilFunc,.nilFunc,.nilFunc] t)):=by
 have g:=rw9_grow h ((Below.refl _ _).alloc ya (mq #[.nilFunc,.nilFunc,.nilFunc] t));constructor <;> try simp only[gse (show 4≠0 by decide),gse (show 4≠1 by decide),gse (show 4≠2 by decide),gse (show 4≠3 by decide),gse (show 4≠5 by decide),gse (show 4≠6 by decide),gse (show 4≠7 by decide)]
 ·exact g.bel
 ·exact g.c33
 ·exact g.c35
 ·exact g.c34
 ·exact g.c36
 ·exact fun _=>⟨by first|rfl|trivial,by rw[zf];omega,h.bel.size,zW w [.nilFunc,.nilFunc,.nilFunc] t⟩
 ·exact g.c6
 ·exact fun D _=>by have:=zL (h.c34 D).2;omega
 ·exact g.n16
 ·exact fun h3 _=>by have:=zL (h.c36 h3).2;omega
 ·exact g.n26
 ·exact fun _ h5=>by have:=(h.c6 h5).2.1;omega
 ·exact fun hx=>absurd hx h6
 ·exact g.s6
theorem rw9_5 (h:RW9 W0 BV q1 q2 x v33 v34 v35 v36 v5 v6 b1 b2 p5 p6 w)(h7:x[7]? ≠ some true)(t:TypeId) :
  RW9 W0 BV q1 q2 (x.set 5 true) v33 v34 v35 v36 v5 (yp w 0) b1 b2 p5 w.heap.size (w.alloc (mq #[.nilFunc,.nilFunc,.nilFunc] t)):=by
 have g:=rw9_grow h ((Below.refl _ _).alloc ya (mq #[.nilFunc,.nilFunc,.nilFunc] t));constructor <;> try simp only[gse (show 5≠0 by decide),gse (show 5≠1 by decide),gse (show 5≠2 by decide),gse (show 5≠3 by decide),gse (show 5≠4 by decide),gse (show 5≠6 by decide),gse (show 5≠7 by decide)]
 ·exact g.bel
 ·exact g.c33
 ·exact g.c35
 ·exact g.c34
 ·exact g.c36
 ·exact g.c5
 ·exact fun _=>⟨by first|rfl|trivial,by rw[zf];omega,h.bel.size,zW w [.nilFunc,.nilFunc,.nilFunc] t⟩
 ·exact g.n15
 ·exact fun D _=>by have:=zL (h.c34 D).2;omega
 ·exact g.n25
 ·exact fun h3 _=>by have:=zL (h.c36 h3).2;omega
 ·exact fun h4 _=>by have:=(h.c5 h4).2.1;omega
 ·exact g.s5
 ·exact fun hx=>absurd hx h7
theorem iD {p:Nat}{F0 F1 F2:Value}{k:Nat}(hk:k≠p):(((w.setCell (J p 0) F0).setCell (J p 1) F1).setCell (J p 2) F2).heap[k]? = w.heap[k]? :=
 (yT _ _ _ _ hk).trans ((yT _ _ _ _ hk).trans (yT _ _ _ _ hk))
theorem set3_size {p:Nat}{F0 F1 F2:Value}:(((w.setCell (J p 0) F0).setCell (J p 1) F1).setCell (J p 2) F2).heap.size=w.heap.size:=by simp[World.setCell]
theorem set3_range {p:Nat}{F0 F1 F2:Value}(ht:w.there p 0 3):(((w.setCell (J p 0) F0).setCell (J p 1) F1).setCell (J p 2) F2).rangeAt p 0 [F0,F1,F2]:=yY w p 0 [F0,F1,F2] (fun j hj=>ht j hj)
theorem lL {p b o n:Nat}{F0 F1 F2:Value}(ht:w.there b o n):(((w.setCell (J p 0) F0).setCell (J p 1) F1).setCell (J p 2) F2).there b o n:=xc ht p 0 [F0,F1,F2]
theorem set3_below {p:Nat}{F0 F1 F2:Value}(h:yn W0 w)(hp:W0.heap.size<=p):yn W0 (((w.setCell (J p 0) F0).setCell (J p 1) F1).setCell (J p 2) F2):=
 ((h.setCell (p:=(J p 0)) hp F0).setCell (p:=(J p 1)) hp F1).setCell (p:=(J p 2)) hp F2
theorem range_block {b o:Nat}{F:List Value}(h:w.rangeAt b o F)(E:w'.heap[b]? = w.heap[b]?):w'.rangeAt b o F:=fun j v hv=>(yR (a:=(J b (o+j))) E).trans (h j v hv)
theorem rw9_6 (h:RW9 W0 BV q1 q2 x v33 v34 v35 v36 v5 v6 b1 b2 p5 p6 w)(D:x[1]? = some true)(h3:x[3]? = some true)(h4:x[4]? = some true)(h5:x[5]? = some true){F0 F1 F2:Value}(hF:gE b1 = [F0,F1,F2]) :
  RW9 W0 BV q1 q2 (x.set 6 true) v33 v34 v35 v36 v5 v6 b1 b2 p5 p6 (((w.setCell (J p5 0) F0).setCell (J p5 1) F1).setCell (J p5 2) F2):=by
 obtain⟨e1,e2,e3,e4⟩:=h.c5 h4;obtain⟨f1,f2,f3,f4⟩:=h.c6 h5;constructor <;> try simp only[gse (show 6≠0 by decide),gse (show 6≠1 by decide),gse (show 6≠2 by decide),gse (show 6≠3 by decide),gse (show 6≠4 by decide),gse (show 6≠5 by decide),gse (show 6≠7 by decide)]
 ·exact set3_below h.bel e3
 ·exact h.c33
 ·exact h.c35
 ·exact fun _=>⟨(h.c34 D).1,zx (h.c34 D).2 (iD (h.n15 D h4))⟩
 ·exact fun _=>⟨(h.c36 h3).1,zx (h.c36 h3).2 (iD (h.n25 h3 h4))⟩
 ·exact fun _=>⟨e1,by rw[set3_size];exact e2,e3,lL e4⟩
 ·exact fun _=>⟨f1,by rw[set3_size];exact f2,f3,lL f4⟩
 ·exact h.n15
 ·exact h.n16
 ·exact h.n25
 ·exact h.n26
 ·exact h.n56
 ·exact fun _=>⟨⟨D,h4⟩,by rw[hF];exact set3_range e4⟩
 ·exact fun hx=>⟨(h.s6 hx).1,range_block (h.s6 hx).2 (iD (Ne.symm (h.n56 h4 h5)))⟩
theorem rw9_7 (h:RW9 W0 BV q1 q2 x v33 v34 v35 v36 v5 v6 b1 b2 p5 p6 w)(D:x[1]? = some true)(h3:x[3]? = some true)(h4:x[4]? = some true)(h5:x[5]? = some true){F0 F1 F2:Value}(hF:gW b2 = [F0,F1,F2]) :
  RW9 W0 BV q1 q2 (x.set 7 true) v33 v34 v35 v36 v5 v6 b1 b2 p5 p6 (((w.setCell (J p6 0) F0).setCell (J p6 1) F1).setCell (J p6 2) F2):=by
 obtain⟨e1,e2,e3,e4⟩:=h.c5 h4;obtain⟨f1,f2,f3,f4⟩:=h.c6 h5;constructor <;> try simp only[gse (show 7≠0 by decide),gse (show 7≠1 by decide),gse (show 7≠2 by decide),gse (show 7≠3 by decide),gse (show 7≠4 by decide),gse (show 7≠5 by decide),gse (show 7≠6 by decide)]
 ·exact set3_below h.bel f3
 ·exact h.c33
 ·exact h.c35
 ·exact fun _=>⟨(h.c34 D).1,zx (h.c34 D).2 (iD (h.n16 D h5))⟩
 ·exact fun _=>⟨(h.c36 h3).1,zx (h.c36 h3).2 (iD (h.n26 h3 h5))⟩
 ·exact fun _=>⟨e1,by rw[set3_size];exact e2,e3,lL e4⟩
 ·exact fun _=>⟨f1,by rw[set3_size];exact f2,f3,lL f4⟩
 ·exact h.n15
 ·exact h.n16
 ·exact h.n25
 ·exact h.n26
 ·exact h.n56
 ·exact fun hx=>⟨(h.s5 hx).1,range_block (h.s5 hx).2 (iD (h.n56 h4 h5))⟩
 ·exact fun _=>⟨⟨h3,h5⟩,by rw[hF];exact set3_range f4⟩
end
theorem insT_len (s:Bool)(k:Int):∀T:List Int,(insT s k T).length<=T.length+1
 | []=>by simp[insT]
 | a::r=>by
  have:=insT_len s k r;rw[insT];split
  ·simp
  ·split <;> simp <;> omega
theorem tks_len (s:Bool):∀seq:List Od,(tks s seq).length<=seq.length
 | []=>by simp[tks]
 | o::r=>by
  have D:=insT_len s o.ticks (tks s r);have Y:=tks_len s r;rw[tks];simp;omega
def backB:Nat->List Oper->Bool
 | _,[]=>true
 | i,o::r=>o.after.toList.all (fun e=>decide (e.on<i))&&backB (i+1) r
theorem back_spec:∀(l:List Oper) (n:Nat),backB n l=true->∀(i:Nat) (o:Oper),l[i]? = some o->∀e∈o.after,e.on<n+i
 | [],_,_,i,o,h,_,_=>by simp at h
 | a::r,n,E,0,o,h,e,he=>by
  simp at h;subst h;simp only[backB,xf,List.all_eq_true,xg] at E;exact E.1 e (by simpa using he)
 | a::r,n,E,i+1,o,h,e,he=>by
  simp only[backB,xf] at E;have:=back_spec r (n+1) E.2 i o (by simpa using h) e he;omega
theorem acyc (l:List Oper)(h:backB 0 l=true):∀(i:Nat) (o:Oper),l[i]? = some o->∀e∈o.after,e.on<i:=fun i o Q e he=>by
 have:=back_spec l 0 h i o Q e he;omega
def C10 (b1 b2 p5 p6 N1 N2:Nat):Nat->Value->Prop
 | 0,v=>v=I p5 2
 | 1,v=>v = .func (.func 166) #[I b1 0] #[]
 | 2,v=>∃a c,v = .slice a N1 c
 | 3,v=>v=H N1
 | 4,v=>v=I p6 2
 | 5,v=>v = .func (.func 170) #[I b2 0] #[]
 | 6,v=>∃a c,v = .slice a N2 c
 | 7,v=>v=H N2
 | 8,v=>v=H ((N1:Int)+N2)
 | 9,v=>v=H ((N1:Int)+N2)
 | _,_=>True
theorem mf (b1 b2:Nat)(sd1 sd2:Int)(s1 s2:List Od)(w:World)(D:eh 197 true w b1 sd1 s1)(Y:eh 200 false w b2 sd2 s2)(n1:s1.length<=20)(n2:s2.length<=20) :
  Calls Tryz.prog 76 #[eX b1,eZ b2] w fun e w'=>e=ym (H (((ef true sd1 s1).length:Int)+(ef false sd2 s2).length))/\yn w w':=by
 have uw:=zL D;have xO:=zL Y;generalize hL1:(ef true sd1 s1).length=N1;generalize hL2:(ef false sd2 s2).length=N2;have hN1:N1<=20:=by rw[<- hL1,ef,List.length_map];exact yO (tks_len _ _) n1
 have hN2:N2<=20:=by rw[<- hL2,ef,List.length_map];exact yO (tks_len _ _) n2
 have HLL:Hid ((ef true sd1 s1).length=N1/\(ef false sd2 s2).length=N2):=⟨hL1,hL2⟩;have xJ:=zf w (mq (gE b1).toArray 129);have ug:((w.alloc (mq (gE b1).toArray 129)).alloc (mq (gW b2).toArray 129)).heap.size=w.heap.size+1+1:=by rw[zf,xJ]
 have r0:=zm w (gE b1) 129;have r1:=zm (w.alloc (mq (gE b1).toArray 129)) (gW b2) 129;rw[xJ] at r1;have r0':=zc r0 (C:=w.heap.size+1) ((Below.refl _ _).alloc (by rw[xJ];omega) (mq (gW b2).toArray 129)) (by omega);have ud:Hid (yn w ((w.alloc (mq (gE b1).toArray 129)).alloc (mq (gW b2).toArray 129))):=(mn _ _).alloc (by rw[xJ];omega) _;have px:=Z r0';have oj:=Z r1;have qf:=Z ug;have jJ:=Z (zx D ((U ud).block _ uw));have un:=Z (zx Y ((U ud).block _ xO));clear r0 r1 r0' xJ ug hL1 hL2 D Y;unfold eX eZ;go_enter Tryz.func76,Tryz.ntmps76;go_wp2_with fail;unfold gE gW at ud px oj qf jJ un;generalize hW:((w.alloc (mq (List.toArray [.func (.func 164) #[I b1 0] #[],.func (.func 165) #[I b1 0] #[],.func (.func 166) #[I b1 0] #[]]) 129)).alloc (mq (List.toArray [.func (.func 168) #[I b2 0] #[],.func (.func 169) #[I b2 0] #[],.func (.func 170) #[I b2 0] #[]]) 129))=W at ud px oj qf jJ un;have hb1s:b1<W.heap.size:=zL (U jJ);have hb2s:b2<W.heap.size:=zL (U un);have hp5:w.heap.size<W.heap.size:=by rw[U qf];omega
 have hp6:w.heap.size+1<W.heap.size:=by rw[U qf];omega
 refine iA (RGrow W (fun f=>{ tmps:=#[eX b1,eZ b2,yp w 0,I (w.heap.size+1) 0,f 9,f 0,f 1,f 2,f 3,f 4,f 5,f 6,f 7,f 8],defers:=[] }) (C10 b1 b2 w.heap.size (w.heap.size+1) N1 N2)) (by kernel_rfl) ?_ ?_ ?_
 ·refine⟨upd (fun _=>M) 9 (H 0),rfl,?_,fun j hj=>by rw[yJ] at hj;split at hj <;> simp at hj⟩;rw[<- hW];exact⟨rfl,rfl,rfl,Nat.le_refl _,fun _ _=>rfl⟩
 ·rintro x zb V ⟨f,rfl,xo,hC⟩ hx xS;have hall9:=eE xS hx (acyc _ (by kernel_rfl)) 9 (by simp);have e9:f 9=H ((N1:Int)+N2):=hC 9 hall9;simp only[e9];have xK:=Z xo;clear hC hx xS hall9 e9 xo;go_wp2_with fail;go_ret;exact⟨rfl,(U ud).trans ((U xK).mono (U ud).size)⟩
 ·rintro x zb V i o ⟨f,rfl,xo,hC⟩ hx Q xu R;have xK:=Z xo;have HC:=Z hC
  match i,Q with
  | 0,Q =>
   cases Q;clear R hC xo;go_simp;exact⟨upd f 0 (yp w 2),by simp[upd],U xK,zC (U HC) rfl⟩
  | 1,Q =>
   cases Q;have g0:C10 b1 b2 w.heap.size (w.heap.size+1) N1 N2 0 (f 0):=hC 0 (ye R 0 rfl);simp only[C10] at g0;have d2:=zc (U px) xo hp5 2 _ rfl;clear R hC xo;go_simp;exact⟨upd f 1 (.func (.func 166) #[I b1 0] #[]),by simp[upd,g0],U xK,zC (U HC) rfl⟩
  | 2,Q =>
   cases Q;have g1:C10 b1 b2 w.heap.size (w.heap.size+1) N1 N2 1 (f 1):=hC 1 (ye R 1 rfl);simp only[C10] at g1;have ht:=zx (U jJ) (xo.block _ hb1s);have HTV:=Z ht;clear R hC xo ht;go_simp;refine(levels_b b1 sd1 s1 V (U HTV) n1).mono ?_;rintro e w4 ⟨v4,rfl,⟨al,cp,rfl,-,-⟩,xy⟩;rw[(U HLL).1];exact⟨upd f 2 (.slice al N1 cp),by simp[upd,g1],(U xK).trans (xy.mono (U xK).size),zC (U HC) ⟨al,cp,rfl⟩⟩
  | 3,Q =>
   cases Q;have g2:C10 b1 b2 w.heap.size (w.heap.size+1) N1 N2 2 (f 2):=hC 2 (ye R 2 rfl);obtain⟨al,cp,g2⟩:=g2;clear R hC xo;go_simp;exact⟨upd f 3 (H N1),by simp[upd,g2],U xK,zC (U HC) rfl⟩
  | 4,Q =>
   cases Q;clear R hC xo;go_simp;exact⟨upd f 4 (I (w.heap.size+1) 2),by simp[upd],U xK,zC (U HC) rfl⟩
  | 5,Q =>
   cases Q;have g4:C10 b1 b2 w.heap.size (w.heap.size+1) N1 N2 4 (f 4):=hC 4 (ye R 4 rfl);simp only[C10] at g4;have d2:=zc (U oj) xo hp6 2 _ rfl;clear R hC xo;go_simp;exact⟨upd f 5 (.func (.func 170) #[I b2 0] #[]),by simp[upd,g4],U xK,zC (U HC) rfl⟩
  | 6,Q =>
   cases Q;have g5:C10 b1 b2 w.heap.size (w.heap.size+1) N1 N2 5 (f 5):=hC 5 (ye R 5 rfl);simp only[C10] at g5;have ht:=zx (U un) (xo.block _ hb2s);have HTV:=Z ht;clear R hC xo ht;go_simp;refine(levels_s b2 sd2 s2 V (U HTV) n2).mono ?_;rintro e w4 ⟨v4,rfl,⟨al,cp,rfl,-,-⟩,xy⟩;rw[(U HLL).2];exact⟨upd f 6 (.slice al N2 cp),by simp[upd,g5],(U xK).trans (xy.mono (U xK).size),zC (U HC) ⟨al,cp,rfl⟩⟩
  | 7,Q =>
   cases Q;have g6:C10 b1 b2 w.heap.size (w.heap.size+1) N1 N2 6 (f 6):=hC 6 (ye R 6 rfl);obtain⟨al,cp,g6⟩:=g6;clear R hC xo;go_simp;exact⟨upd f 7 (H N2),by simp[upd,g6],U xK,zC (U HC) rfl⟩
  | 8,Q =>
   cases Q;have g3:C10 b1 b2 w.heap.size (w.heap.size+1) N1 N2 3 (f 3):=hC 3 (ye R 3 rfl);have g7:C10 b1 b2 w.heap.size (w.heap.size+1) N1 N2 7 (f 7):=hC 7 (ye R 7 rfl);simp only[C10] at g3;simp only[C10] at g7;have hwr8:IntKind.i64.wrap ((N1:Int)+N2)=(N1:Int)+N2:=by rw[IntKind.wrap_i64];omega
   clear R hC xo;go_simp;exact⟨upd f 8 (H ((N1:Int)+N2)),by simp[upd,g3,g7],U xK,zC (U HC) rfl⟩
  | 9,Q =>
   cases Q;have g8:C10 b1 b2 w.heap.size (w.heap.size+1) N1 N2 8 (f 8):=hC 8 (ye R 8 rfl);simp only[C10] at g8;clear R hC xo;go_simp;exact⟨upd f 9 (H ((N1:Int)+N2)),by simp[upd,g8],U xK,zC (U HC) rfl⟩
  | n+10,Q=>simp at Q
def okI (next:Int)(l:List Od):Bool:=betB next 1 1000000&&decide (l.length<=20)&&idsR next 0 l&&l.all ordB &&
 (decide ((ef true 1 (zv l 1)).length+(ef false 2 (zv l 2)).length<=8) && !meetB (quOf true (zv l 1)) (quOf false (zv l 2)))
theorem implBookOK_any (next:Int)(v:Value)(l:List Od)(w:World)(hr:RdR Od.vs 6 w v l)(X:∀c∈l,c.tag.size<=maxLen) :
  Calls Tryz.prog 43 #[.agg #[H next,v]] w fun e w'=>e=ym (.bool (okI next l))/\yn w w':=by
 have HR:=Z hr;have HG:=Z X;obtain⟨a,cap,rfl,xC,hc⟩:=hr
 have xt:∀(k:Nat) (c:Od),l[k]? = some c->∃b off,a=some (J b off)/\b<w.heap.size/\w.rangeAt b (off+k*6) c.vs:=by
  intro k c hk;obtain⟨b,off,D,Y,h3⟩:=hc (by intro h;rw[h] at hk;simp at hk);exact⟨b,off,D,Y,h3 k c hk⟩
 have HC:=Z xt;clear xt hc X;have ud:Hid (yn w (w.alloc (mq #[H next,.slice a l.length cap] 27))):=mn _ _;have jM:=zm w [H next,.slice a l.length cap] 27;have HX:Hid (World.cell? (w.alloc (mq #[H next,.slice a l.length cap] 27)) (yq w 0)=some (H next)/\World.cell? (w.alloc (mq #[H next,.slice a l.length cap] 27)) (yq w 1)=some (.slice a l.length cap)/\w.heap.size<(w.alloc (mq #[H next,.slice a l.length cap] 27)).heap.size):=⟨jM 0 _ rfl,jM 1 _ rfl,by rw[zf];omega⟩;clear jM;cases D:betB next 1 1000000
 ·go_enter Tryz.func43,Tryz.ntmps43;go_wp2_with fail;refine(zN next 1 1000000 _).mono ?_;rintro e w1 ⟨rfl,rfl⟩;go_wp2_with fail;go_ret;exact⟨zp (by simp[okI,D]),U ud⟩
 by_cases Y:l.length<=20
 rotate_left
 ·have dD:(20:Int)<l.length:=by omega
  go_enter Tryz.func43,Tryz.ntmps43;go_wp2_with fail;refine(zN next 1 1000000 _).mono ?_;rintro e w1 ⟨rfl,rfl⟩;go_wp2_with fail;go_ret;exact⟨zp (by simp[okI,D,Y]),U ud⟩
 have dD:¬ ((20:Int)<l.length):=by omega
 cases h3:idsR next 0 l
 ·go_enter Tryz.func43,Tryz.ntmps43;go_wp2_with fail;refine(zN next 1 1000000 _).mono ?_;rintro e w1 ⟨rfl,rfl⟩;go_wp2_with fail;refine(idsRise_any next _ l _ (zi (U HR) (U ud) ya)).mono ?_;rintro e w2 ⟨rfl,xO⟩;have xv:=Z (mr (U ud) xO);clear xO;go_wp2_with fail;go_ret;exact⟨zp (by simp[okI,h3]),U xv⟩
 go_enter Tryz.func43,Tryz.ntmps43;go_wp2_with fail;refine(zN next 1 1000000 _).mono ?_;rintro e w1 ⟨rfl,rfl⟩;go_wp2_with fail;refine(idsRise_any next _ l _ (zi (U HR) (U ud) ya)).mono ?_;rintro e w2 ⟨rfl,xO⟩;have xv:=Z (mr (U ud) xO);have x0:=(xO.cell (p:=(yq w 0)) (U HX).2.2).trans (U HX).1;have x1:=(xO.cell (p:=(yq w 1)) (U HX).2.2).trans (U HX).2.1;have hsz2:w.heap.size<w2.heap.size:=yK (U HX).2.2 xO.size;have xG:Hid (w2.cell? (yq w 0)=some (H next)/\w2.cell? (yq w 1)=some (.slice a l.length cap)):=⟨x0,x1⟩;clear xO x0;go_wp2_with fail;go_loopw [25] (fun iv wr=>∃(k:Nat),k<=l.length/\iv=H k/\Hid (l.all ordB=(l.drop k).all ordB)/\yn w2 wr) (fun iv _=>l.length-(intOf iv).toNat)
 case atStart=>exact⟨0,Nat.zero_le _,rfl,by simp[Hid],Below.refl _ _⟩
 case round =>
  obtain⟨k,hk,rfl,R,xo⟩:=hrel;have HB:=Z xo;clear xo x1
  by_cases xM:k<l.length
  ·obtain⟨c,vf⟩:∃c,l[k]? = some c:=⟨_,yI xM⟩
   have ji:l.drop k=c::l.drop (k+1):=by
    obtain⟨D,rfl⟩:=yH.1 vf;exact xd D
   have HI:Hid (l.all ordB=(ordB c&&(l.drop (k+1)).all ordB)):=by
    have:=U R;rw[ji] at this;exact this
   obtain⟨b,off,rfl,E,xn⟩:=U HC k c vf;obtain⟨g0,g1,g2,g3,g4,g5⟩:=zF (zc xn ((U xv).trans ((U HB).mono (U xv).size)) E);have HS:=Z (U HG c (yP vf));have uL:(k:Int)<l.length:=by omega
   have bB:=(U HB).size;clear vf xn E ji R;go_wp2_with fail;refine(orderOK_any c _ (U HS)).mono ?_;rintro e w3 ⟨rfl,xL⟩;have xI:=Z (((U HB).alloc bB _).trans (xL.mono (by rw[zf];omega)));clear xL;cases Q:ordB c
   ·have HN:Hid (l.all ordB=false):=by
     have:=U HI;rw[Q,Bool.false_and] at this;exact this
    go_wp2_with fail;go_ret;exact⟨zp (by rw[okI,U HN];simp),(U xv).trans ((U xI).mono (U xv).size)⟩
   ·have HN:Hid (l.all ordB=(l.drop (k+1)).all ordB):=by
     have:=U HI;rw[Q,Bool.true_and] at this;exact this
    go_wp2_with fail;go_roundw
    case rel=>exact⟨k+1,by omega,by go_num,U HN,U xI⟩
    case measure=>simp[intOf];omega
  ·have hall2:l.all ordB=true:=by
    have h:=U R;rw[xb (by omega)] at h;rw[h];rfl
   have HALL:=Z hall2;clear R hall2;have y0:=((U HB).cell (p:=(yq w 0)) hsz2).trans (U xG).1;have y1:=((U HB).cell (p:=(yq w 1)) hsz2).trans (U xG).2;go_wp2_with fail;have HRr:=Z (zi (zi (U HR) (U xv) ya) (U HB) ya);have pq:w.heap.size<wr.heap.size:=yK hsz2 (U HB).size
   have HLB:Hid (∀o'∈l,0<=o'.left/\o'.left<=1000000):=fun o' vW=>by
    have:=List.all_eq_true.1 (U HALL) o' vW;simp[ordB,betB] at this;omega
   have HY:Hid (wr.cell? (yq w 0)=some (H next)/\wr.cell? (yq w 1)=some (.slice a l.length cap)):=⟨y0,y1⟩;clear y0 y1;refine iA (fun x zb W=>∃v33 v34 v35 v36 v5 v6 b1 b2 p5 p6,zb = { tmps:=#[.agg #[H next,.slice a l.length cap],yp w 0,u2,M,u4,v5,v6,yp w 0,H next,.bool true,.bool false,.bool false,yp w 1,.slice a l.length cap,H l.length,.bool (decide ((20:Int)<l.length)),.bool (decide ((20:Int)<l.length)),.bool (decide ((20:Int)<l.length)),.agg #[H next,.slice a l.length cap],.bool true,.bool false,.bool (decide ((20:Int)<l.length)),yp w 1,.slice a l.length cap,H l.length,H k,.bool false,u27,u28,u29,u30,u31,u32,v33,v34,v35,v36,M,M,M,M,M,M,M,M,M,M],defers:=[] }/\RW9 wr (.agg #[H next,.slice a l.length cap]) (zv l 1) (zv l 2) x v33 v34 v35 v36 v5 v6 b1 b2 p5 p6 W) (by kernel_rfl) ?_ ?_ ?_
   ·refine⟨M,M,M,M,M,M,0,0,0,0,rfl,?_⟩;refine⟨⟨rfl,rfl,rfl,Nat.le_refl _,fun _ _=>rfl⟩,?_,?_,?_,?_,?_,?_,?_,?_,?_,?_,?_,?_,?_⟩ <;> simp
   ·rintro x zb W ⟨v33,v34,v35,v36,v5,v6,b1,b2,p5,p6,rfl,L⟩ hx xS;have q0:=gp xS hx 0 _ rfl (by simp);have q2:=gp xS hx 2 _ rfl (by simp);have q4:=gp xS hx 4 _ rfl (by simp);have q5:=gp xS hx 5 _ rfl (by simp);have q1:=gp xS hx 1 _ rfl (by simp[q0]);have q3:=gp xS hx 3 _ rfl (by simp[q1,q2]);have q6:=gp xS hx 6 _ rfl (by simp[q0,q1,q2,q3,q4,q5]);have q7:=gp xS hx 7 _ rfl (by simp[q0,q1,q2,q3,q4,q5,q6]);obtain⟨e1,e2⟩:=L.c34 q1;obtain⟨e3,e4⟩:=L.c36 q3;obtain⟨e5,e6,e7,e8⟩:=L.c5 q4;obtain⟨f5,f6,f7,f8⟩:=L.c6 q5;have e9:=(L.s5 q6).2;have f9:=(L.s6 q7).2;have hbW:=L.bel;subst e1 e3 e5 f5;have HW:Hid (Tb W b1 (zv l 1)/\Ts W b2 (zv l 2)/\W.rangeAt p5 0 (gE b1)/\W.rangeAt p6 0 (gW b2)/\p5<W.heap.size/\p6<W.heap.size/\yn wr W):=⟨e2,e4,e9,f9,e6,f6,hbW⟩;clear L q0 q1 q2 q3 q4 q5 q6 q7 e2 e4 e6 e7 e8 f6 f7 f8 e9 f9 hbW xS hx;have n1:(zv l 1).length<=20:=yO (List.length_filter_le _ _) Y;have n2:(zv l 2).length<=20:=yO (List.length_filter_le _ _) Y;obtain⟨hT1,hT2,r5,r6,hp5,hp6,-⟩:=U HW;have uN:=Z ((U xv).trans (((U HB).trans ((U HW).2.2.2.2.2.2.mono (U HB).size)).mono (U xv).size));have jJ:=Z hT1;have un:=Z hT2;have px:=Z r5;have oj:=Z r6;have hb1s:=zL hT1;have hb2s:=zL hT2;clear hT1 hT2 r5 r6;generalize hL1:(ef true 1 (zv l 1)).length=N1;generalize hL2:(ef false 2 (zv l 2)).length=N2;generalize hmt:meetB (quOf true (zv l 1)) (quOf false (zv l 2))=mt
    have kt:Hid (okI next l=(decide (N1+N2<=8) && !mt)):=by
     show okI next l = _;rw[okI,D,h3,U HALL,hL1,hL2,hmt,decide_eq_true Y];rfl
    have HLL:Hid ((ef true 1 (zv l 1)).length=N1/\(ef false 2 (zv l 2)).length=N2/\meetB (quOf true (zv l 1)) (quOf false (zv l 2))=mt):=⟨hL1,hL2,hmt⟩;clear hL1 hL2 hmt;have d0:=U px 0 _ rfl;have d1:=U px 1 _ rfl;have d2:=U px 2 _ rfl;have e0:=U oj 0 _ rfl;have e1:=U oj 1 _ rfl;have e2:=U oj 2 _ rfl;rw[Nat.zero_add] at d0 d1 d2 e0 e1 e2;go_wp2_with fail;refine(mf b1 b2 1 2 (zv l 1) (zv l 2) W (U jJ) (U un) n1 n2).mono ?_;rw[(U HLL).1,(U HLL).2.1];rintro e w4 ⟨rfl,xy⟩;have xF:=Z (mr (U uN) xy);have HT14:=Z (zx (U jJ) (xy.block _ hb1s));have HT24:=Z (zx (U un) (xy.block _ hb2s));have d0:=zc (U px) xy hp5 0 _ rfl;have d1:=zc (U px) xy hp5 1 _ rfl;have d2:=zc (U px) xy hp5 2 _ rfl;have e0:=zc (U oj) xy hp6 0 _ rfl;have e1:=zc (U oj) xy hp6 1 _ rfl;have e2:=zc (U oj) xy hp6 2 _ rfl;rw[Nat.zero_add] at d0 d1 d2 e0 e1 e2;clear xy
    by_cases h8:N1+N2<=8
    ·have h8':(N1:Int)+N2<=8:=by omega
     have HK:Hid (okI next l = !mt):=by
      have:=U kt;rw[decide_eq_true h8,Bool.true_and] at this;exact this
     go_wp2_with fail;refine(sidesMeet_any b1 b2 1 2 (zv l 1) (zv l 2) w4 (U HT14) (U HT24) n1 n2).mono ?_;rw[(U HLL).2.2];rintro e w5 ⟨rfl,uc⟩;have ui:=Z (mr (U xF) uc);clear uc;go_wp2_with fail;go_ret;exact⟨zp (U HK).symm,U ui⟩
    ·have h8':¬ ((N1:Int)+N2<=8):=by omega
     have HK:Hid (okI next l=false):=by
      have:=U kt;rw[decide_eq_false h8,Bool.false_and] at this;exact this
     go_wp2_with fail;go_ret;exact⟨zp (U HK).symm,U xF⟩
   ·rintro x zb W i o ⟨v33,v34,v35,v36,v5,v6,b1,b2,p5,p6,rfl,L⟩ hx Q xu R;have xw:=Z L;have z0:=(L.bel.cell (p:=(yq w 0)) pq).trans (U HY).1;have z1:=(L.bel.cell (p:=(yq w 1)) pq).trans (U HY).2;have vn:=Z (zi (U HRr) L.bel ya)
    match i,Q with
    | 0,Q =>
     cases Q;rw[if_pos (by rfl)];unfold Oper.wp;clear R L;go_simp;exact⟨_,_,_,_,_,_,⟨rfl,rfl,rfl,rfl,rfl,rfl⟩,_,_,_,_,rw9_0 (U xw)⟩
    | 1,Q =>
     cases Q;have h0:x[0]? = some true:=R ⟨0,.data⟩ (by simp) rfl;obtain rfl:=L.c33 h0;have h6:x[6]? ≠ some true:=fun e=>by have:=(L.s5 e).1.1;rw[xu] at this;cases this
     clear R L;go_simp;refine(lM next _ l W (U vn) Y (U HLB)).mono ?_;rintro e w3 ⟨b,rfl,ht,qS,E⟩;exact⟨_,_,_,_,_,_,⟨rfl,rfl,rfl,rfl,rfl,rfl⟩,b,_,_,_,rw9_1 (U xw) h6 E qS ht⟩
    | 2,Q =>
     cases Q;rw[if_pos (by rfl)];unfold Oper.wp;clear R L;go_simp;exact⟨_,_,_,_,_,_,⟨rfl,rfl,rfl,rfl,rfl,rfl⟩,_,_,_,_,rw9_2 (U xw)⟩
    | 3,Q =>
     cases Q;have h22:x[2]? = some true:=R ⟨2,.data⟩ (by simp) rfl;obtain rfl:=L.c35 h22;have h7:x[7]? ≠ some true:=fun e=>by have:=(L.s6 e).1.1;rw[xu] at this;cases this
     clear R L;go_simp;refine(lA next 2 (by omega) _ l W (U vn) Y (U HLB)).mono ?_;rintro e w3 ⟨b,rfl,ht,qS,E⟩;exact⟨_,_,_,_,_,_,⟨rfl,rfl,rfl,rfl,rfl,rfl⟩,_,b,_,_,rw9_3 (U xw) h7 E qS ht⟩
    | 4,Q =>
     cases Q;have h6:x[6]? ≠ some true:=fun e=>by have:=(L.s5 e).1.2;rw[xu] at this;cases this
     clear R L;go_simp;exact⟨_,_,_,_,_,_,⟨rfl,rfl,rfl,rfl,rfl,rfl⟩,_,_,_,_,rw9_4 (U xw) h6 _⟩
    | 5,Q =>
     cases Q;have h7:x[7]? ≠ some true:=fun e=>by have:=(L.s6 e).1.2;rw[xu] at this;cases this
     clear R L;go_simp;exact⟨_,_,_,_,_,_,⟨rfl,rfl,rfl,rfl,rfl,rfl⟩,_,_,_,_,rw9_5 (U xw) h7 _⟩
    | 6,Q =>
     cases Q;have k1:x[1]? = some true:=R ⟨1,.data⟩ (by simp) rfl;have k3:x[3]? = some true:=R ⟨3,.chain⟩ (by simp) rfl;have k4:x[4]? = some true:=R ⟨4,.data⟩ (by simp) rfl;have k5:x[5]? = some true:=R ⟨5,.phase⟩ (by simp) rfl;obtain rfl:=(L.c34 k1).1;obtain⟨e5,-,-,e8⟩:=L.c5 k4;subst e5;obtain⟨⟨x0,y0,z0'⟩,⟨x1,y1,z1'⟩,x2,y2,z2'⟩:(∃v,W.cell? (J p5 0)=some v/\W.frozen? (J p5 0)=false)/\(∃v,W.cell? (J p5 1)=some v/\W.frozen? (J p5 1)=false)/\(∃v,W.cell? (J p5 2)=some v/\W.frozen? (J p5 2)=false):=⟨by simpa using fI e8 0 (by omega),by simpa using fI e8 1 (by omega),by simpa using fI e8 2 (by omega)⟩;have HE:=Z (rw9_6 (U xw) k1 k3 k4 k5 (F0:=_) (F1:=_) (F2:=_) rfl);clear R L z0 z1 e8;unfold eX at HE |-;generalize hF0:Value.func (.func 164) #[I b1 0] #[]=F0 at HE |-;generalize hF1:Value.func (.func 165) #[I b1 0] #[]=F1 at HE |-;generalize hF2:Value.func (.func 166) #[I b1 0] #[]=F2 at HE |-
     have qK:∀(V:World) (o:Nat) (m:Mode),((store (J p5 o) F0 m).run Tryz.prog V=stored Tryz.prog V (J p5 o) F0 m)/\((store (J p5 o) F1 m).run Tryz.prog V=stored Tryz.prog V (J p5 o) F1 m)/\((store (J p5 o) F2 m).run Tryz.prog V=stored Tryz.prog V (J p5 o) F2 m):=fun V o m=>by
      subst hF0 hF1 hF2;exact⟨run_store _ V _ _ m rfl,run_store _ V _ _ m rfl,run_store _ V _ _ m rfl⟩
     have hst0:=fun V o m=>(qK V o m).1;have hst1:=fun V o m=>(qK V o m).2.1;have hst2:=fun V o m=>(qK V o m).2.2;clear qK hF0 hF1 hF2;go_simp;exact⟨_,_,_,_,_,_,⟨rfl,rfl,rfl,rfl,rfl,rfl⟩,_,_,_,_,U HE⟩
    | 7,Q =>
     cases Q;have k1:x[1]? = some true:=R ⟨1,.phase⟩ (by simp) rfl;have k3:x[3]? = some true:=R ⟨3,.data⟩ (by simp) rfl;have k4:x[4]? = some true:=R ⟨4,.phase⟩ (by simp) rfl;have k5:x[5]? = some true:=R ⟨5,.data⟩ (by simp) rfl;obtain rfl:=(L.c36 k3).1;obtain⟨e5,-,-,e8⟩:=L.c6 k5;subst e5;obtain⟨⟨x0,y0,z0'⟩,⟨x1,y1,z1'⟩,x2,y2,z2'⟩:(∃v,W.cell? (J p6 0)=some v/\W.frozen? (J p6 0)=false)/\(∃v,W.cell? (J p6 1)=some v/\W.frozen? (J p6 1)=false)/\(∃v,W.cell? (J p6 2)=some v/\W.frozen? (J p6 2)=false):=⟨by simpa using fI e8 0 (by omega),by simpa using fI e8 1 (by omega),by simpa using fI e8 2 (by omega)⟩;have HE:=Z (rw9_7 (U xw) k1 k3 k4 k5 (F0:=_) (F1:=_) (F2:=_) rfl);clear R L z0 z1 e8;unfold eZ at HE |-;generalize hF0:Value.func (.func 168) #[I b2 0] #[]=F0 at HE |-;generalize hF1:Value.func (.func 169) #[I b2 0] #[]=F1 at HE |-;generalize hF2:Value.func (.func 170) #[I b2 0] #[]=F2 at HE |-
     have qK:∀(V:World) (o:Nat) (m:Mode),((store (J p6 o) F0 m).run Tryz.prog V=stored Tryz.prog V (J p6 o) F0 m)/\((store (J p6 o) F1 m).run Tryz.prog V=stored Tryz.prog V (J p6 o) F1 m)/\((store (J p6 o) F2 m).run Tryz.prog V=stored Tryz.prog V (J p6 o) F2 m):=fun V o m=>by
      subst hF0 hF1 hF2;exact⟨run_store _ V _ _ m rfl,run_store _ V _ _ m rfl,run_store _ V _ _ m rfl⟩
     have hst0:=fun V o m=>(qK V o m).1;have hst1:=fun V o m=>(qK V o m).2.1;have hst2:=fun V o m=>(qK V o m).2.2;clear qK hF0 hF1 hF2;go_simp;exact⟨_,_,_,_,_,_,⟨rfl,rfl,rfl,rfl,rfl,rfl⟩,_,_,_,_,U HE⟩
    | n+8,Q=>simp at Q
theorem allR_eq (next:Int):∀(l:List Od) (last:Int),allR next last l=(idsR next last l&&l.all ordB)
 | [],_=>rfl
 | a::r,last=>by
  rw[allR,idsR,List.all_cons,allR_eq next r a.id];cases ordB a <;> cases decide (last<a.id) <;> cases decide (a.id<next) <;> simp
theorem lF {s:Bool}{l:List Od}{sd:Int}(hr:eo l):((quOf s (zv l sd)).head? = none/\∀o∈l,o.side≠sd) \/ ∃i o,(quOf s (zv l sd)).head? = some o/\iq s l sd i o:=by
 cases h:(quOf s (zv l sd)).head? with
 | none=>exact .inl ⟨rfl,queue_none (fZ s _) h⟩
 | some o =>
  obtain⟨i,hi⟩:=queue_front hr (fZ s _) h;exact .inr ⟨i,o,rfl,hi⟩
theorem meet_noX {l:List Od}(hr:eo l):(!meetB (quOf true (zv l 1)) (quOf false (zv l 2)))=noX l:=by
 rcases lF (s:=true) (sd:=1) hr with⟨D,hn⟩|⟨i,a,D,pA⟩
 ·rw[noX_none1 hn];simp[meetB,hdF,D]
 ·rcases lF (s:=false) (sd:=2) hr with⟨Y,hn⟩|⟨j,b,Y,hf2⟩
  ·rw[noX_none2 hn];simp[meetB,hdF,Y]
  ·rw[noX_fronts pA hf2];simp only[meetB,hdF,hdO,D,Y,Option.isSome_some,Option.getD_some,Bool.true_and];rw[Bool.eq_iff_iff];simp
theorem okI_eq (next:Int)(l:List Od):okI next l=okS next l:=by
 unfold okI okS;rw[allR_eq];cases h:(idsR next 0 l&&l.all ordB)
 ·rw[Bool.and_assoc (betB next 1 1000000&&decide (l.length<=20)) (idsR next 0 l),h];simp
 ·have R:allR next 0 l=true:=by rw[allR_eq];exact h
  have hr:=(iC R).1
  have hs:∀o∈l,o.side=1\/o.side=2:=fun o Q=>by
   have:=iU R o Q;simp[ordB,betB] at this;omega
  rw[Bool.and_assoc (betB next 1 1000000&&decide (l.length<=20)) (idsR next 0 l),h,meet_noX hr];have:=nlev_eq hs (fZ true _) (fZ false _);rw[ef,ef,List.length_map,List.length_map,this]
abbrev ORow (W:World)(B:Nat)(v:Value)(l:List Od):Prop:=W.ownsRow B 65 6 v l.length (l.flatMap Od.vs)
theorem zI {W:World}{B:Nat}{v:Value}{l:List Od}(h:ORow W B v l)(hl:l.length<=1073741824):RdR Od.vs 6 W v l:=ownR_rd (il Od.len hl h)
theorem cellsQ (w:World)(F:List Value)(t:TypeId)(j:Nat)(u:Value)(h:F[j]? = some u):(w.alloc (Obj.cells F.toArray t)).cell? (((yq w 0):Addr).add j)=some u:=by
 rw[Addr.add_mid,cell_of_row _ w.heap.size (0+j) F.toArray t (0,0) (heap_alloc_new w _)];simpa using h
theorem ie {W:World}{g off:Nat}{l:List Od}(h:∀i c,l[i]? = some c->W.rangeAt g (off+i*6) c.vs)(a n:Nat):∀j u,(((l.drop a).take n).flatMap Od.vs)[j]? = some u->W.cell? (((J g (off+a*6)):Addr).add j)=some u:=by
 intro j u hu;have xM:=(yH.1 hu).1;rw[zY Od.len] at xM;have hq:j / 6<((l.drop a).take n).length:=by omega
 obtain⟨c,hc⟩:∃c,((l.drop a).take n)[j / 6]? = some c:=⟨_,yI hq⟩;have D:=flat_get Od.len _ (j / 6) (j % 6) c hc (by omega);rw[show j / 6*6+j % 6=j by omega,hu] at D
 have hc':l[a+j / 6]? = some c:=by
  rw[List.getElem?_take] at hc;split at hc
  ·rw[List.getElem?_drop] at hc;exact hc
  ·cases hc
 have:=h _ c hc' (j % 6) u D.symm;rw[Addr.add_mid];rw[show off+(a+j / 6)*6+j % 6=off+a*6+j by omega] at this;exact this
theorem fM (l:List Od):∀u∈l.flatMap Od.vs,u.oneCell'=true:=by
 intro u hu;obtain⟨o,_,Q⟩:=List.mem_flatMap.1 hu;simp[Od.vs] at Q;rcases Q with rfl|rfl|rfl|rfl|rfl|rfl <;> rfl
structure R7 (LV:Value) (W0:World) (C:Nat->Value->Prop) (L1 L2:List Od) (x:List Bool) (f:Nat->Value) (W:World):Prop where
 bel:Below W0.heap.size W0 W
 c:∀j,x[j]? = some true->C j (f j)
 s5:x[10]? = some false->f 10=LV
 m0:x[0]? = some true->x[4]? = some false->ORow W W0.heap.size (f 0) []
 m4:x[4]? = some true->x[9]? = some false->ORow W W0.heap.size (f 4) L1
 m9:x[9]? = some true->ORow W W0.heap.size (f 9) L2
 m10:x[10]? = some true->f 10=f 9
 o4:x[4]? = some true->x[0]? = some true
 o9:x[9]? = some true->x[4]? = some true
 o10:x[10]? = some true->∀j,j<10->x[j]? = some true
theorem gq {x:List Bool}{i j:Nat}(h:i≠j):(x.set i true)[j]? = x[j]?:=yX h
theorem set_mono {x:List Bool}{i j:Nat}(h:x[j]? = some true):(x.set i true)[j]? = some true:=by
 by_cases aB:i=j
 ·subst aB;exact List.getElem?_set_self (yH.1 h).1
 ·rw[yX aB];exact h
theorem gqs {x:List Bool}{i:Nat}(h:x[i]? = some false):(x.set i true)[i]? = some true:=List.getElem?_set_self (yH.1 h).1
section
variable {LV:Value} {W0 W W':World} {C:Nat->Value->Prop} {L1 L2:List Od} {x:List Bool} {f:Nat->Value}
theorem fj (h:R7 LV W0 C L1 L2 x f W)(i:Nat)(v:Value)(hv:C i v)(h0:i≠0)(h4:i≠4)(h9:i≠9)(qi:i≠10):R7 LV W0 C L1 L2 (x.set i true) (upd f i v) W:=by
 refine⟨h.bel,zC h.c hv,?_,?_,?_,?_,?_,?_,?_,?_⟩ <;> simp only[gq h0,gq h4,gq h9,gq qi,zk f v h0.symm,zk f v h4.symm,zk f v h9.symm,zk f v qi.symm]
 ·exact h.s5
 ·exact h.m0
 ·exact h.m4
 ·exact h.m9
 ·exact h.m10
 ·exact h.o4
 ·exact h.o9
 ·exact fun e j hj=>set_mono (h.o10 e j hj)
theorem no_of {b:Option Bool}(h:b=some false):b≠some true:=by rw[h];simp
theorem r7_0 (h:R7 LV W0 C L1 L2 x f W)(h0:x[0]? = some false)(hv:∀v,C 0 v):R7 LV W0 C L1 L2 (x.set 0 true) (upd f 0 (.slice (some (yq W 0)) 0 0)) (W.alloc (mq #[] 65)):=by
 have n4:x[4]? ≠ some true:=fun e=>no_of h0 (h.o4 e);have n9:x[9]? ≠ some true:=fun e=>n4 (h.o9 e);have n10:x[10]? ≠ some true:=fun e=>n9 (h.o10 e 9 (by omega));refine⟨h.bel.alloc h.bel.size _,zC h.c (hv _),?_,?_,?_,?_,?_,?_,?_,?_⟩ <;> try simp only[gq (show 0≠4 by decide),gq (show 0≠9 by decide),gq (show 0≠10 by decide),zk f _ (show 10≠0 by decide),zk f _ (show 9≠0 by decide),zk f _ (show 4≠0 by decide)]
 ·exact h.s5
 ·intro _ _;rw[zo];exact World.ownsRow_made W #[] 0 h.bel.size (by decide) rfl
 ·exact fun e=>absurd e n4
 ·exact fun e=>absurd e n9
 ·exact fun e=>absurd e n10
 ·exact fun e=>absurd e n4
 ·exact h.o9
 ·exact fun e j hj=>set_mono (h.o10 e j hj)
theorem r7_4 (h:R7 LV W0 C L1 L2 x f W)(h0:x[0]? = some true)(h4:x[4]? = some false)(hv:∀v,C 4 v){v':Value}(Q:ORow W' W0.heap.size v' L1)(X:W.grownBy W' (f 0).ownBlock):R7 LV W0 C L1 L2 (x.set 4 true) (upd f 4 v') W':=by
 have n9:x[9]? ≠ some true:=fun e=>no_of h4 (h.o9 e);have n10:x[10]? ≠ some true:=fun e=>n9 (h.o10 e 9 (by omega));refine⟨h.bel.grown X h.bel.size (fun k hk=>((h.m0 h0 h4).lt k hk).1),zC h.c (hv _),?_,?_,?_,?_,?_,?_,?_,?_⟩ <;> try simp only[gq (show 4≠0 by decide),gq (show 4≠9 by decide),gq (show 4≠10 by decide),zk f _ (show 10≠4 by decide),zk f _ (show 9≠4 by decide),zk f _ (show 0≠4 by decide)]
 ·exact h.s5
 ·intro _ e;rw[gqs h4] at e;cases e
 ·intro _ _;rw[zo];exact Q
 ·exact fun e=>absurd e n9
 ·exact fun e=>absurd e n10
 ·exact fun _=>h0
 ·exact fun e=>absurd e n9
 ·exact fun e j hj=>set_mono (h.o10 e j hj)
theorem r7_9 (h:R7 LV W0 C L1 L2 x f W)(h4:x[4]? = some true)(h9:x[9]? = some false)(hv:∀v,C 9 v){v':Value}(Q:ORow W' W0.heap.size v' L2)(X:W.grownBy W' (f 4).ownBlock):R7 LV W0 C L1 L2 (x.set 9 true) (upd f 9 v') W':=by
 have n10:x[10]? ≠ some true:=fun e=>no_of h9 (h.o10 e 9 (by omega));refine⟨h.bel.grown X h.bel.size (fun k hk=>((h.m4 h4 h9).lt k hk).1),zC h.c (hv _),?_,?_,?_,?_,?_,?_,?_,?_⟩ <;> try simp only[gq (show 9≠0 by decide),gq (show 9≠4 by decide),gq (show 9≠10 by decide),zk f _ (show 10≠9 by decide),zk f _ (show 4≠9 by decide),zk f _ (show 0≠9 by decide)]
 ·exact h.s5
 ·exact fun _ e=>absurd e (by rw[h4];simp)
 ·intro _ e;rw[gqs h9] at e;cases e
 ·intro _;rw[zo];exact Q
 ·exact fun e=>absurd e n10
 ·exact h.o4
 ·exact fun _=>h4
 ·exact fun e=>absurd e n10
theorem r7_10 (h:R7 LV W0 C L1 L2 x f W)(hA:∀j,j<10->x[j]? = some true)(qi:x[10]? = some false)(hv:∀v,C 10 v):R7 LV W0 C L1 L2 (x.set 10 true) (upd f 10 (f 9)) W:=by
 refine⟨h.bel,zC h.c (hv _),?_,?_,?_,?_,?_,?_,?_,?_⟩ <;> try simp only[gq (show 10≠0 by decide),gq (show 10≠4 by decide),gq (show 10≠9 by decide),zk f _ (show 9≠10 by decide),zk f _ (show 4≠10 by decide),zk f _ (show 0≠10 by decide)]
 ·intro e;rw[gqs qi] at e;cases e
 ·exact h.m0
 ·exact h.m4
 ·exact h.m9
 ·exact fun _=>zo _ _ _
 ·exact h.o4
 ·exact h.o9
 ·exact fun _ j hj=>set_mono (hA j hj)
end
def C7 (LV:Value)(g n cp i:Nat):Nat->Value->Prop
 | 1,v=>v=LV
 | 2,v=>v=H i
 | 3,v=>v = .slice (some (J g 0)) i cp
 | 5,v=>v=LV
 | 6,v=>v=H i
 | 7,v=>v=H ((i:Int)+1)
 | 8,v=>∃ad c,v = .slice (some ad) (n-(i+1)) c/\(i+1<n->ad=(J g ((i+1)*6)))
 | _,_=>True
def R7A (LV:Value)(W0:World)(C:Nat->Value->Prop)(L1 L2:List Od)(cs:(Nat->Value)->Act)(x:List Bool)(zb:Act)(W:World):Prop:=∃f,zb=cs f/\R7 LV W0 C L1 L2 x f W
theorem fL {W:World}{B:Nat}{v:Value}{l:List Od}(h:ORow W B v l)(xr:l ≠ []):∃g cap,v = .slice (some (J g 0)) l.length cap/\l.length<=cap/\B<=g/\g<W.heap.size:=by
 rcases h.2 with⟨rfl,h0⟩|⟨g,cap,xA,rfl,E,X,ur,_⟩
 ·exact absurd (List.length_eq_zero_iff.1 h0) xr
 ·exact⟨g,cap,rfl,ur,E,(yZ.1 X).1⟩
def noV (c:Cm):Value:=.agg #[H c.s,H c.t,H c.l,H c.q,yj c.p,yk c.g]
def dT (t:Int):Bool:=decide (t=1)||decide (t=5)
def prcB (c:Cm):Bool:=if c.t=2 then decide (fbit c.p=0) else tkOk c.p
def eB (c:Cm)(o:Od):Bool:=if c.t=2 then true else if c.s=1 then decide (o.ticks<=tk c.p) else decide (tk c.p<=o.ticks)
def ordO (c:Cm)(id:Int):Od:=⟨id,c.s,tk c.p,c.q,c.l,c.g⟩
def othS (s:Int):Int:=if s=1 then 2 else 1
theorem isType_any (t:Int)(w:World) :
  Calls Tryz.prog 203 #[H t] w fun e w'=>e=ym (.bool (betB t 1 5))/\w'=w:=by
 go_enter Tryz.func203,Tryz.ntmps203;go_wp2_with fail;refine(zN t 1 5 w).mono ?_;rintro e w' ⟨rfl,rfl⟩;go_wp2_with fail;go_ret;exact⟨rfl,rfl⟩
theorem isQty_any (t:Int)(w:World) :
  Calls Tryz.prog 205 #[H t] w fun e w'=>e=ym (.bool (betB t 1 1000000))/\w'=w:=by
 go_enter Tryz.func205,Tryz.ntmps205;go_wp2_with fail;refine(zN t 1 1000000 w).mono ?_;rintro e w' ⟨rfl,rfl⟩;go_wp2_with fail;go_ret;exact⟨rfl,rfl⟩
theorem otherSide_any (s:Int)(w:World) :
  Calls Tryz.prog 104 #[H s] w fun e w'=>e=ym (H (othS s))/\w'=w:=by
 by_cases h:s=1
 ·subst h;go_enter Tryz.func104,Tryz.ntmps104;go_wp2_with fail;go_ret;exact⟨rfl,rfl⟩
 ·have h':(s==1)=false:=by simpa using h
  have HS:Hid (othS s=1):=if_neg h;go_enter Tryz.func104,Tryz.ntmps104;go_wp2_with fail;go_ret;exact⟨zB (U HS).symm,rfl⟩
theorem iL (c:Cm)(w:World) :
  Calls Tryz.prog 106 #[noV c] w fun e w'=>e=ym (.bool (dT c.t))/\yn w w':=by
 obtain⟨k,s,t,l,q,i,p,g⟩:=c;unfold noV;simp only
 by_cases D:t=1
 ·subst D;go_enter Tryz.func106,Tryz.ntmps106;go_wp2_with fail;go_ret;exact⟨rfl,by go_grown⟩
 ·have b1:(t==1)=false:=by simpa using D
  by_cases h5:t=5
  ·subst h5;go_enter Tryz.func106,Tryz.ntmps106;go_wp2_with fail;go_ret;exact⟨rfl,by go_grown⟩
  ·have b5:(t==5)=false:=by simpa using h5
   have HR:Hid (dT t=false):=by show dT t=false;simp[dT,D,h5]
   go_enter Tryz.func106,Tryz.ntmps106;go_wp2_with fail;go_ret;exact⟨zp (U HR).symm,by go_grown⟩
theorem hasPrice_any (c:Cm)(w:World) :
  Calls Tryz.prog 204 #[noV c] w fun e w'=>e=ym (.bool (prcB c))/\yn w w':=by
 obtain⟨k,s,t,l,q,i,p,g⟩:=c;unfold noV;simp only;have HB:Hid (yn w (w.alloc (mq #[H s,H t,H l,H q,yj p,yk g] 63))):=mn _ _
 by_cases Y:t=2
 ·subst Y;have HP:Hid (prcB ⟨k,s,2,l,q,i,p,g⟩=decide (fbit p=0)):=if_pos rfl;go_enter Tryz.func204,Tryz.ntmps204;go_wp2_with fail;refine(lN p _).mono ?_;rintro e w' ⟨rfl,rfl⟩;go_wp2_with fail;go_ret;exact⟨zp (by rw[U HP,Bool.eq_iff_iff];simp),U HB⟩
 ·have b2:(t==2)=false:=by simpa using Y
  have HP:Hid (prcB ⟨k,s,t,l,q,i,p,g⟩=tkOk p):=if_neg Y;go_enter Tryz.func204,Tryz.ntmps204;go_wp2_with fail;refine(lu p _).mono ?_;rintro e w' ⟨rfl,rfl⟩;go_wp2_with fail;go_ret;exact⟨zp (U HP).symm,U HB⟩
theorem meets_any (c:Cm)(o:Od)(w:World) :
  Calls Tryz.prog 105 #[noV c,.agg (yw o.id o.side o.ticks o.left o.life o.tag).toArray] w fun e w'=>e=ym (.bool (eB c o))/\yn w w':=by
 obtain⟨k,s,t,l,q,i,p,g⟩:=c;obtain⟨id,side,ticks,left,life,tag⟩:=o;unfold noV;simp only;have HB:Hid (yn w ((w.alloc (mq #[H s,H t,H l,H q,yj p,yk g] 63)).alloc (mq (yw id side ticks left life tag).toArray 65))):=(mn _ _).alloc (by rw[zf];omega) _
 by_cases Y:t=2
 ·subst Y;have HP:Hid (eB ⟨k,s,2,l,q,i,p,g⟩ ⟨id,side,ticks,left,life,tag⟩=true):=if_pos rfl;go_enter Tryz.func105,Tryz.ntmps105;go_wp2_with fail;go_ret;exact⟨zp (U HP).symm,U HB⟩
 ·have b2:(t==2)=false:=by simpa using Y
  by_cases D:s=1
  ·subst D;have HP:Hid (eB ⟨k,1,t,l,q,i,p,g⟩ ⟨id,side,ticks,left,life,tag⟩=decide (ticks<=tk p)):=by show _ = _;rw[eB,if_neg Y];rfl
   go_enter Tryz.func105,Tryz.ntmps105;go_wp2_with fail;refine(lu p _).mono ?_;rintro e w' ⟨rfl,rfl⟩;go_wp2_with fail;go_ret;exact⟨zp (U HP).symm,U HB⟩
  ·have b1:(s==1)=false:=by simpa using D
   have HP:Hid (eB ⟨k,s,t,l,q,i,p,g⟩ ⟨id,side,ticks,left,life,tag⟩=decide (tk p<=ticks)):=by show _ = _;rw[eB,if_neg Y,if_neg D]
   go_enter Tryz.func105,Tryz.ntmps105;go_wp2_with fail;refine(lu p _).mono ?_;rintro e w' ⟨rfl,rfl⟩;go_wp2_with fail;go_ret;exact⟨zp (U HP).symm,U HB⟩
theorem order_any (c:Cm)(id:Int)(w:World) :
  Calls Tryz.prog 151 #[noV c,H id] w fun e w'=>e=ym (.agg (yw id c.s (tk c.p) c.q c.l c.g).toArray)/\yn w w':=by
 obtain⟨k,s,t,l,q,i,p,g⟩:=c;unfold noV;simp only;go_enter Tryz.func151,Tryz.ntmps151;go_wp2_with fail;refine(lu p _).mono ?_;rintro e w' ⟨rfl,rfl⟩;go_wp2_with fail;go_returns;refine⟨rfl,?_⟩;go_grown
theorem toldNew_any (c:Cm)(w:World) :
  Calls Tryz.prog 231 #[noV c] w fun e w'=>e=ym (.agg (yx 1 c.s c.t c.l c.q 0 c.p c.g).toArray)/\yn w w':=by
 obtain⟨k,s,t,l,q,i,p,g⟩:=c;unfold noV;have hsf:=sfl;simp only;go_enter Tryz.func231,Tryz.ntmps231;go_wp2_with fail;go_returns;refine⟨rfl,?_⟩;go_grown
theorem toldCancel_any (i:Int)(w:World) :
  Calls Tryz.prog 235 #[.agg #[H i]] w fun e w'=>e=ym (.agg (yx 2 0 0 0 0 i 0 ⟨#[]⟩).toArray)/\yn w w':=by
 have hsf:=sfl;go_enter Tryz.func235,Tryz.ntmps235;go_wp2_with fail;go_returns;refine⟨rfl,?_⟩;go_grown
theorem toldReduce_any (i q:Int)(w:World) :
  Calls Tryz.prog 236 #[.agg #[H i,H q]] w fun e w'=>e=ym (.agg (yx 3 0 0 0 q i 0 ⟨#[]⟩).toArray)/\yn w w':=by
 have hsf:=sfl;go_enter Tryz.func236,Tryz.ntmps236;go_wp2_with fail;go_returns;refine⟨rfl,?_⟩;go_grown
theorem toldDay_any (w:World) :
  Calls Tryz.prog 240 #[.agg #[]] w fun e w'=>e=ym (.agg (yx 4 0 0 0 0 0 0 ⟨#[]⟩).toArray)/\yn w w':=by
 have hsf:=sfl;go_enter Tryz.func240,Tryz.ntmps240;go_wp2_with fail;go_returns;refine⟨rfl,?_⟩;go_grown
end Go.Proofs.YthhkapcbocgcoaaGreatDoor
