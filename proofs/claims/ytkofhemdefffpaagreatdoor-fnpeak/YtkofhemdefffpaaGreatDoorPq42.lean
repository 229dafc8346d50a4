/-.-/
import Derived.Test.YtkofhemdefffpaaGreatDoorPq39
import Derived.Test.YtkofhemdefffpaaGreatDoorPq41
set_option linter.unusedVariables false
set_option maxHeartbeats 6400000
set_option maxRecDepth 100000
namespace Go.Proofs.YtkofhemdefffpaaGreatDoor
open Go.RowKit
def jgV (cs:List Cm)(vq vt:Value):List Value:=[H (runS cs).n,vq,H (runS cs).t.gr,H (runS cs).t.ac,H (runS cs).t.rf,H (runS cs).t.tr,H (runS cs).t.vo,H (runS cs).t.no,H (runS cs).t.li,H (runS cs).t.le,vt,H (pkO cs),H (pkL cs)]
structure JG (zb B:Nat) (W:World) (cs:List Cm) (vq vt:Value):Prop where
 box:Bx W zb (jgV cs vq vt)
 typ:∃cur,W.heap[zb]? = some (.cells cur 46 (0,0))
 row:ORow W B vq (runS cs).l
 told:W.ownsRow B 37 8 vt cs.length (cs.flatMap Cm.vs)
 hJ:B<=zb
theorem JG.lt {zb B:Nat}{W:World}{cs:List Cm}{vq vt:Value}(h:JG zb B W cs vq vt):zb<W.heap.size:=by
 obtain⟨xt,hc⟩:=h.typ;exact(yZ.1 hc).1
theorem jg_below {zb B:Nat}{W W':World}{cs:List Cm}{vq vt:Value}(h:JG zb B W cs vq vt)(K:yp W W'):JG zb B W' cs vq vt:=by
 have hl:=h.lt;obtain⟨xt,hc⟩:=h.typ;exact⟨zl h.box K hl,⟨xt,(K.block zb hl).trans hc⟩,zn h.row K,own_keep h.told K,h.hJ⟩
theorem typ_below {T:TypeId}{b:Nat}{W W':World}(h:∃xt,W.heap[b]? = some (.cells xt T (0,0)))(K:yp W W'):∃xt,W'.heap[b]? = some (.cells xt T (0,0)):=by
 obtain⟨xt,hc⟩:=h;exact⟨xt,(K.block b (yZ.1 hc).1).trans hc⟩
def CloseG:Prop:=∀(zb B:Nat) (cs:List Cm) (vq vt:Value) (e0:Ev) (r:List Ev) (va vb:Value) (C:Nat) (w:World),JG zb B w cs vq vt->cs.length<200->(e0::r).length<=8192->ERow w C va (e0::r)->1<=e0.kind/\e0.kind<=9->e0::r=stE (runS cs).n (runS cs).l (da e0)->ORow w B vb (stL (runS cs).n (runS cs).l (da e0)) ->
  Calls Tryz.prog 81 #[h3 zb 0,va,.agg #[H (stN (runS cs).n (runS cs).l (da e0)),vb]] w fun e w'=>e=yn (.tuple #[])/\∃ow,JG zb B w' (cs ++ [da e0]) vb ow/\Kp zb vt w w'
def vdV (x:Nat × Int):Value:=.agg #[.bool (decide (x.2=0)),H x.1,H x.2]
def I6T (t:Tot):Prop:=I6 t.gr/\I6 t.ac/\I6 t.rf/\I6 t.tr/\I6 t.vo/\I6 t.no/\I6 t.li/\I6 t.le
theorem i6_wrap (x:Int):I6 (wrap64 x):=by unfold I6 wrap64;omega
theorem i6_cntE {t:Tot}(e:Ev)(h:I6T t):I6T (cntE t e):=by
 obtain⟨Z,Q,I,h4,h5,h6,h7,h8⟩:=h;unfold cntE
 repeat' split
 all_goals (refine⟨?_,?_,?_,?_,?_,?_,?_,?_⟩ <;> first|assumption|exact i6_wrap _)
theorem i6_fold:∀(es:List Ev) {t:Tot},I6T t->I6T (es.foldl cntE t)
 | [],t,h=>h
 | e::es,t,h=>i6_fold es (i6_cntE e h)
theorem i6_wg {t:Tot}(es:List Ev)(h:I6T t):I6T (wgT t es):=by
 unfold wgT;obtain⟨Z,Q,I,h4,h5,h6,h7,h8⟩:=h;exact i6_fold es ⟨i6_wrap _,Q,I,h4,h5,h6,h7,h8⟩
theorem i6_run:∀(cs:List Cm) {s:RunSt},I6T s.t->I6T (cs.foldl rstep s).t
 | [],s,h=>h
 | c::cs,s,h=>i6_run cs (s:=rstep s c) (i6_wg _ h)
theorem i6_wb:∀(l:List Od) {t:Tot},I6T t->I6T (l.foldl cntO t)
 | [],t,h=>h
 | o::l,t,h=>i6_wb l (by obtain⟨Z,Q,I,h4,h5,h6,h7,h8⟩:=h;exact⟨Z,Q,I,h4,h5,h6,i6_wrap _,i6_wrap _⟩)
theorem ttJ_ok (cs:List Cm):(ttJ cs).ok:=by
 have h:I6T (wbT (runS cs).t (runS cs).l):=i6_wb _ (i6_run cs (s:=⟨1,[],[],tot0⟩) (by refine⟨?_,?_,?_,?_,?_,?_,?_,?_⟩ <;> (show I6 0;unfold I6;omega)));obtain⟨Z,Q,I,h4,h5,h6,h7,h8⟩:=h;intro x hx;simp only[Tt.ns,ttJ,List.mem_cons,List.not_mem_nil,or_false] at hx;rcases hx with rfl|rfl|rfl|rfl|rfl|rfl|rfl|rfl <;> assumption
theorem set3 (W:World)(b:Nat)(v0 v1 v2:Value):((W.setCell (Y b 0) v0).setCell (Y b 1) v1).setCell (Y b 2) v2=W.setCells b 0 [v0,v1,v2]:=by
 simp only[World.setCells]
theorem endV_box (w:World)(m:Int)(pa:Option Addr)(pl pc:Nat)(n s:Int):Bx ((w.alloc (me #[.int .u8 m,.slice pa pl pc,H n,H s] 95)).alloc (me #[.bool false,H 0,H 0] 66)) w.heap.size [.int .u8 m,.slice pa pl pc,H n,H s]/\Bx ((w.alloc (me #[.int .u8 m,.slice pa pl pc,H n,H s] 95)).alloc (me #[.bool false,H 0,H 0] 66)) (w.heap.size+1) [.bool false,H 0,H 0]/\((w.alloc (me #[.int .u8 m,.slice pa pl pc,H n,H s] 95)).alloc (me #[.bool false,H 0,H 0] 66)).heap.size=w.heap.size+2/\yp w ((w.alloc (me #[.int .u8 m,.slice pa pl pc,H n,H s] 95)).alloc (me #[.bool false,H 0,H 0] 66)):=by
 refine⟨zl (zo w [.int .u8 m,.slice pa pl pc,H n,H s] 95) ((Below.refl (w.heap.size+1) _).alloc (by simp) _) (by omega),?_,by simp,((Below.refl _ w).alloc yb _).alloc (by simp) _⟩;have h:=zo (w.alloc (me #[.int .u8 m,.slice pa pl pc,H n,H s] 95)) [.bool false,H 0,H 0] 66;rwa[show(w.alloc (me #[.int .u8 m,.slice pa pl pc,H n,H s] 95)).heap.size=w.heap.size+1 by simp] at h
theorem endVerdict_any {zb B:Nat}{cs:List Cm}{vq vt:Value}(l:List Int)(m:Int)(pa:Option Addr)(pl pc n t:Nat)(s:Int)(w:World)(h:JG zb B w cs vq vt)(hl:cs.length<=200)(hp:Rd w (.slice pa pl pc) ((l.drop n).take (t-n)))(K:Bts l)(jf:l.length<=65536)(ht:t+2<=l.length) :
  Calls Tryz.prog 48 #[h3 zb 0,.agg #[.int .u8 m,.slice pa pl pc,H n,H s],H ((t+2:Nat):Int),H l.length] w fun e w'=>e=yn (vdV (endJ l n t cs))/\yp w w':=by
 have hJl:=h.lt;have vL:=h.box;unfold jgV at vL;have jn:=(iu cs hl).1.good.len;obtain⟨qa,qc,rfl⟩:=gy h.row;obtain⟨hX,hY,hZ,hB⟩:=endV_box w m pa pl pc n s;have HX:=U hX;have HY:=U hY;have HB:=U hB;have HPB:Hid (Bts ((l.drop n).take (t-n))):=fun x hx=>K x (List.mem_of_mem_drop (List.mem_of_mem_take hx));have HRQ:Hid (∀V,yp w V->RdR Od.vs 6 V (.slice qa (runS cs).l.length qc) (runS cs).l):=fun V hV=>zq (zZ h.row (by omega)) hV yb;have HRP:Hid (∀V,yp w V->Rd V (.slice pa pl pc) ((l.drop n).take (t-n))):=fun V hV=>fx hp hV yb;have HEJ:=U (endJ.eq_1 l n t cs);have jj:=U (ttJ_ok cs);have HPY:=U (pay_bts (ttJ cs).ns);have HTP:Hid (∀V,Calls Tryz.prog 75 #[.agg #[H (wbT (runS cs).t (runS cs).l).gr,H (wbT (runS cs).t (runS cs).l).ac,H (wbT (runS cs).t (runS cs).l).rf,H (wbT (runS cs).t (runS cs).l).tr,H (wbT (runS cs).t (runS cs).l).vo,H (wbT (runS cs).t (runS cs).l).no,H (wbT (runS cs).t (runS cs).l).li,H (wbT (runS cs).t (runS cs).l).le]] V fun e w'=>∃v,e=yn v/\BRow w' V.heap.size v (pay (ttJ cs).ns)/\yp V w'):=fun V=>totalsPayload_any (ttJ cs) (ttJ_ok cs) V;have HWB:=U (fun V hV=>withBook_any (runS cs).t (runS cs).n (.slice qa (runS cs).l.length qc) (runS cs).l V (O HRQ V hV));have uO:(pay (ttJ cs).ns).length<=80:=by have:=eZ (ttJ cs).ns (ttJ_ok cs);simp only[Tt.ns,List.length_cons,List.length_nil] at this;exact this
 generalize endJ l n t cs=EJ at HEJ |-;generalize pay (ttJ cs).ns=PP at HEJ HPY uO HTP;generalize wbT (runS cs).t (runS cs).l=t1 at HTP HWB;generalize (runS cs).t=t0 at vL HWB;generalize (runS cs).n=n0 at vL HWB;have HBJ:=U vL;clear h hp K vL HRQ jj hX hY hB;generalize (runS cs).l=L at HBJ HWB jn;generalize (l.drop n).take (t-n)=p at HEJ HPB HRP
 have oV:Hid (∀V,Below ((w.alloc (me #[.int .u8 m,.slice pa pl pc,H n,H s] 95)).alloc (me #[.bool false,H 0,H 0] 66)).heap.size ((w.alloc (me #[.int .u8 m,.slice pa pl pc,H n,H s] 95)).alloc (me #[.bool false,H 0,H 0] 66)) V->V.cell? (yr w 1)=some (.slice pa pl pc)/\V.cell? (Y zb 2)=some (H t0.gr)/\V.cell? (Y zb 3)=some (H t0.ac)/\V.cell? (Y zb 4)=some (H t0.rf)/\V.cell? (Y zb 5)=some (H t0.tr)/\V.cell? (Y zb 6)=some (H t0.vo)/\V.cell? (Y zb 7)=some (H t0.no)/\V.cell? (Y zb 8)=some (H t0.li)/\V.cell? (Y zb 9)=some (H t0.le)/\V.cell? (Y zb 0)=some (H n0)/\V.cell? (Y zb 1)=some (.slice qa L.length qc)):=fun V hV=>by
  have Z:=zl (O HX) hV (by omega);have Q:=zl (zl (O HBJ) (O HB) hJl) hV (by omega);exact⟨J Z 1 rfl,J Q 2 rfl,J Q 3 rfl,J Q 4 rfl,J Q 5 rfl,J Q 6 rfl,J Q 7 rfl,J Q 8 rfl,J Q 9 rfl,J Q 0 rfl,J Q 1 rfl⟩
 have HZ:=U hZ;clear hZ;go_enter Tryz.func48,Tryz.ntmps48;go_wp2_with fail;generalize ((w.alloc (me #[.int .u8 m,.slice pa pl pc,H n,H s] 95)).alloc (me #[.bool false,H 0,H 0] 66))=xh at HX HY HB oV HZ |-;have vT:Hid (yp xh xh.drew):=(Below.refl _ _).drew
 go_region_held3 (fun w'=>w'.cell? (yr w 1)=some (.slice pa pl pc)/\w'.cell? (Y zb 2)=some (H t0.gr)/\w'.cell? (Y zb 3)=some (H t0.ac)/\w'.cell? (Y zb 4)=some (H t0.rf)/\w'.cell? (Y zb 5)=some (H t0.tr)/\w'.cell? (Y zb 6)=some (H t0.vo)/\w'.cell? (Y zb 7)=some (H t0.no)/\w'.cell? (Y zb 8)=some (H t0.li)/\w'.cell? (Y zb 9)=some (H t0.le)/\w'.cell? (Y zb 0)=some (H n0)/\w'.cell? (Y zb 1)=some (.slice qa L.length qc)) (first|exact O oV _ hq|exact O oV _ (O vT)|go_keep) (first|(go_at_call 76;refine(O HWB _ ((O HB).trans ((O vT).mono (O HB).size))).mono ?_;rintro e w2 ⟨rfl,xy⟩;have hq:=(O vT).trans xy)|(go_at_call 75;refine(O HTP _).mono ?_;rintro e w3 ⟨pv,rfl,xN,xV⟩;obtain⟨ra,rc,rfl⟩:=lh xN;have hq2:=hq;clear hq;have hq:=hq2.trans (xV.mono hq2.size))|(go_at_call 67;refine(lX _ _ p PP _ (O HRP _ (mf (O HB) hq)) (il xN (by omega)) (O HPB) (O HPY)).mono ?_;rintro e w4 ⟨rfl,rfl⟩))
 have hz:=O HZ;have ju:=U (zl (O HY) hq (by omega));have xH:=U (zl (O HX) hq (by omega));have xQ:=U (mf (O HB) hq);clear xN hq hq2 xy xV HY HX HB vT oV HWB HTP HRP HPY HPB HBJ HZ;have x2:=J (O xH) 2 rfl;have z0:=J (O ju) 0 rfl;have z1:=J (O ju) 1 rfl;have z2:=J (O ju) 2 rfl;obtain ⟨f0,f1,f2⟩:=r0_3 (O ju) rfl
 by_cases hpp:p=PP
 ·have e1:decide (p=PP)=true:=by simpa using hpp
  rw[e1]
  by_cases jZ:t+2<l.length
  ·have HF:Hid (EJ=(t+2,17)):=by show _ = _;rw[O HEJ,if_neg (fun h=>h hpp),if_pos jZ]
   have Q:((t:Int)+2<l.length):=by omega
   clear hpp e1 jZ;have xP:=U (zy (us:=[.bool false,H (t+2),H 17]) (O ju) rfl);have jB:=U (zj (w.heap.size+1) (by omega) [.bool false,H (t+2),H 17] 0 w4 (O xQ));go_wp2_with fail;rw[set3];have d:=O xP;refine bodyPost_ret (v:=vdV EJ) ?_ rfl ⟨rfl,O jB⟩;rw[O HF];simp[results,Tryz.results48,go_sem,vdV,J d 0 rfl,J d 1 rfl,J d 2 rfl]
  ·have HF:Hid (EJ=(0,0)):=by show _ = _;rw[O HEJ,if_neg (fun h=>h hpp),if_neg jZ]
   have Q:¬ ((t:Int)+2<l.length):=by omega
   clear hpp e1 jZ;have xP:=U (zy (us:=[.bool true,H 0,H 0]) (O ju) rfl);have jB:=U (zj (w.heap.size+1) (by omega) [.bool true,H 0,H 0] 0 w4 (O xQ));go_wp2_with fail;rw[set3];have d:=O xP;refine bodyPost_ret (v:=vdV EJ) ?_ rfl ⟨rfl,O jB⟩;rw[O HF];simp[results,Tryz.results48,go_sem,vdV,J d 0 rfl,J d 1 rfl,J d 2 rfl]
 ·have e1:decide (p=PP)=false:=by simpa using hpp
  have HF:Hid (EJ=(n,16)):=by show _ = _;rw[O HEJ,if_pos hpp]
  rw[e1];clear hpp e1;have xP:=U (zy (us:=[.bool false,H n,H 16]) (O ju) rfl);have jB:=U (zj (w.heap.size+1) (by omega) [.bool false,H n,H 16] 0 w4 (O xQ));go_wp2_with fail;rw[set3];have d:=O xP;refine bodyPost_ret (v:=vdV EJ) ?_ rfl ⟨rfl,O jB⟩;rw[O HF];simp[results,Tryz.results48,go_sem,vdV,J d 0 rfl,J d 1 rfl,J d 2 rfl]
end Go.Proofs.YtkofhemdefffpaaGreatDoor
