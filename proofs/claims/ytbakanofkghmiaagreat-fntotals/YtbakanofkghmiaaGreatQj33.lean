/-
  Scripts that are the same but for the bits of prices that are no number lead to the same book, the same totals, and to groups that are the same but for those bits. No function walked.
-/
import Derived.Test.YtbakanofkghmiaaGreatQj32
set_option linter.unusedVariables false
set_option maxHeartbeats 6400000
set_option maxRecDepth 100000
namespace Go.Proofs.YtbakanofkghmiaaGreat
open Go.RowKit Ieee
set_option linter.unusedVariables false

theorem tkOk_nan {x:Nat} (h:nanB x = true):tkOk x = false:=by
 cases hk:tkOk x
 ·rfl
 exfalso
 have Q:=(nan_iff x).1 h
 have e:FloatKind.f64.format.order x 0 = none:=by
  show (double.read x).order (double.read 0) = none
  cases hx:double.read x with
  | nan s f=>rfl
  | infinity s=>rw [hx] at Q; simp [Datum.isNaN] at Q
  | number s m i=>rw [hx] at Q; simp [Datum.isNaN] at Q
 rw [tkOk,e] at hk
 simp at hk
theorem fbit_none' {x:Nat} (h:nanB x = true):fbit x = 9221120237041090560:=by rw [fbit,if_pos h]
theorem prcB_nan {c:Cm} (h:nanB c.p = true):prcB c = false:=by
 rw [prcB]
 split
 ·rw [fbit_none' h]; rfl
 ·exact tkOk_nan h
theorem cmEq_cases {c d:Cm} (h:CmEq c d):c = d ∨ (nanB c.p = true∧nanB d.p = true):=by
 obtain ⟨k,s,t,l,q,i,p,g⟩:=c
 obtain ⟨k',s',t',l',q',i',p',g'⟩:=d
 obtain ⟨rfl,rfl,rfl,rfl,rfl,rfl,hp,rfl⟩:=h
 rcases hp with e | h
 ·left
  have e:p = p':=e
  rw [e]
 ·exact .inr h
theorem newR_nan {n:Int} {l:List Od} {c:Cm} (h:nanB c.p = true):newR n l c = if betB c.s 1 2 = false then 3 else if betB c.t 1 5 = false then 4 else if lifW c = true then 5 else 6:=by
 rw [newR,prcB_nan h,if_pos rfl]
theorem refR_nan {n:Int} {l:List Od} {c:Cm} (h:nanB c.p = true) :
  refR n l c = if c.k = 1 then (if c.i = 0 then (if betB c.s 1 2 = false then 3 else if betB c.t 1 5 = false then 4 else if lifW c = true then 5 else 6) else 2) else if c.k = 2 then 2 else if c.k = 3 then 2 else if c.k = 4 then 2 else 1:=by
 have hz:fbit 0 = 0:=by decide +kernel
 have hn:(fbit 0 == fbit c.p) = false:=by rw [hz,fbit_none' h]; rfl
 rw [refR]
 by_cases Q:c.k = 1
 ·rw [if_pos Q,if_pos Q,newR_nan h]
  have e:aK ⟨1,c.s,c.t,c.l,c.q,0,c.p,c.g⟩ c = decide (c.i = 0):=by
   rw [aK]
   simp only [Q,beq_self_eq_true,Bool.true_and,decide_true,Bool.and_true]
   by_cases hi:c.i = 0
   ·rw [hi]; rfl
   ·rw [decide_eq_false hi]
    simpa using fun e=>hi e.symm
  rw [e]
  by_cases hi:c.i = 0
  ·rw [if_pos (by simpa using hi),if_pos hi]
  ·rw [if_neg (by simpa using hi),if_neg hi]
 ·rw [if_neg Q,if_neg Q]
  have e:∀ a b:Int,∀ k2:Int,∀ g,aK ⟨k2,0,0,0,a,b,0,g⟩ c = false:=fun a b k2 g=>by
   rw [aK]
   simp only [hn,Bool.false_and,Bool.and_false]
  rw [e,e,e]
  simp only [if_neg Bool.false_ne_true]
theorem refR_nz {n:Int} {l:List Od} {c:Cm} (h:nanB c.p = true):refR n l c ≠ 0:=by
 rw [refR_nan h]
 repeat' split
 all_goals decide
structure EvEq (e f:Ev):Prop where
 kind:e.kind = f.kind
 cmd:CmEq e.cmd f.cmd
 id:e.id = f.id
 other:e.other = f.other
 qty:e.qty = f.qty
 price:e.price = f.price
 reason:e.reason = f.reason
theorem cmEq_refl (c:Cm):CmEq c c:=⟨rfl,rfl,rfl,rfl,rfl,rfl,.inl rfl,rfl⟩
theorem evEq_refl (e:Ev):EvEq e e:=⟨rfl,cmEq_refl _,rfl,rfl,rfl,rfl,rfl⟩
theorem pEq_sym {a b:Nat} (h:PEq a b):PEq b a:=by
 rcases h with rfl | ⟨Q,N⟩
 ·exact .inl rfl
 ·exact .inr ⟨N,Q⟩
theorem pEq_trans {a b c:Nat} (h:PEq a b) (k:PEq b c):PEq a c:=by
 rcases h with rfl | ⟨Q,N⟩
 ·exact k
 ·rcases k with rfl | ⟨k1,k2⟩
  ·exact .inr ⟨Q,N⟩
  ·exact .inr ⟨Q,k2⟩
theorem cmEq_sym {c d:Cm} (h:CmEq c d):CmEq d c:=⟨h.k.symm,h.s.symm,h.t.symm,h.l.symm,h.q.symm,h.i.symm,pEq_sym h.p,h.g.symm⟩
theorem cmEq_trans {c d e:Cm} (h:CmEq c d) (k:CmEq d e):CmEq c e:=⟨h.k.trans k.k,h.s.trans k.s,h.t.trans k.t,h.l.trans k.l,h.q.trans k.q,h.i.trans k.i,pEq_trans h.p k.p,h.g.trans k.g⟩
theorem csEq_sym:∀ {cs ds:List Cm},CsEq cs ds→CsEq ds cs
 | [],[],_=>True.intro
 | _ :: _,_ :: _,h=>⟨cmEq_sym h.1,csEq_sym h.2⟩
 | [],_ :: _,h=>h.elim
 | _ :: _,[],h=>h.elim
theorem csEq_trans:∀ {cs ds es:List Cm},CsEq cs ds→CsEq ds es→CsEq cs es
 | [],[],[],_,_=>True.intro
 | _ :: _,_ :: _,_ :: _,h,k=>⟨cmEq_trans h.1 k.1,csEq_trans h.2 k.2⟩
 | [],_ :: _,_,h,_=>h.elim
 | _ :: _,[],_,h,_=>h.elim
 | [],[],_ :: _,_,k=>k.elim
 | _ :: _,_ :: _,[],_,k=>k.elim
def EsEq:List Ev→List Ev→Prop
 | [],[]=>True
 | c :: cs,d :: ds=>EvEq c d∧EsEq cs ds
 | _,_=>False
def GsEq:List (List Ev)→List (List Ev)→Prop
 | [],[]=>True
 | c :: cs,d :: ds=>EsEq c d∧GsEq cs ds
 | _,_=>False
theorem esEq_refl:∀ es:List Ev,EsEq es es
 | []=>True.intro
 | e :: es=>⟨evEq_refl e,esEq_refl es⟩
theorem esEq_len:∀ {cs ds:List Ev},EsEq cs ds→cs.length = ds.length
 | [],[],_=>rfl
 | _ :: _,_ :: _,h=>by simpa using esEq_len h.2
 | [],_ :: _,h=>h.elim
 | _ :: _,[],h=>h.elim
theorem gsEq_len:∀ {cs ds:List (List Ev)},GsEq cs ds→cs.length = ds.length
 | [],[],_=>rfl
 | _ :: _,_ :: _,h=>by simpa using gsEq_len h.2
 | [],_ :: _,h=>h.elim
 | _ :: _,[],h=>h.elim
theorem gsEq_at:∀ {cs ds:List (List Ev)},GsEq cs ds→∀ (k:Nat) (c:List Ev),cs[k]? = some c→∃ d,ds[k]? = some d∧EsEq c d
 | [],[],_,_,_,e=>by simp at e
 | a :: _,b :: _,h,0,c,e=>⟨b,rfl,by simp at e; rw [← e]; exact h.1⟩
 | _ :: cs,_ :: ds,h,k + 1,c,e=>gsEq_at h.2 k c (by simpa using e)
 | [],_ :: _,h,_,_,_=>h.elim
 | _ :: _,[],h,_,_,_=>h.elim
theorem gsEq_snoc:∀ {cs ds:List (List Ev)} {c d:List Ev},GsEq cs ds→EsEq c d→GsEq (cs ++ [c]) (ds ++ [d])
 | [],[],_,_,_,e=>⟨e,True.intro⟩
 | _ :: _,_ :: _,_,_,h,e=>⟨h.1,gsEq_snoc h.2 e⟩
 | [],_ :: _,_,_,h,_=>h.elim
 | _ :: _,[],_,_,h,_=>h.elim
theorem evEq_sym {e f:Ev} (h:EvEq e f):EvEq f e:=⟨h.kind.symm,cmEq_sym h.cmd,h.id.symm,h.other.symm,h.qty.symm,h.price.symm,h.reason.symm⟩
theorem esEq_sym:∀ {cs ds:List Ev},EsEq cs ds→EsEq ds cs
 | [],[],_=>True.intro
 | _ :: _,_ :: _,h=>⟨evEq_sym h.1,esEq_sym h.2⟩
 | [],_ :: _,h=>h.elim
 | _ :: _,[],h=>h.elim
theorem gsEq_sym:∀ {cs ds:List (List Ev)},GsEq cs ds→GsEq ds cs
 | [],[],_=>True.intro
 | _ :: _,_ :: _,h=>⟨esEq_sym h.1,gsEq_sym h.2⟩
 | [],_ :: _,h=>h.elim
 | _ :: _,[],h=>h.elim
theorem step_eq {n:Int} {l:List Od} {c d:Cm} (h:CmEq c d):stN n l c = stN n l d∧stL n l c = stL n l d∧EsEq (stE n l c) (stE n l d):=by
 rcases cmEq_cases h with rfl | ⟨hc,hd⟩
 ·exact ⟨rfl,rfl,esEq_refl _⟩
 ·have zc:=refR_nz (n:=n) (l:=l) hc
  have zd:=refR_nz (n:=n) (l:=l) hd
  have e:refR n l c = refR n l d:=by
   rw [refR_nan hc,refR_nan hd,h.k,h.i,h.s,h.t]
   have:lifW c = lifW d:=by rw [lifW,lifW,h.l,h.t]
   rw [this]
  refine ⟨?_,?_,?_⟩
  ·rw [stN,stN,if_neg (fun x=>zc x.1),if_neg (fun x=>zd x.1)]
  ·rw [stL,stL,if_neg zc,if_neg zd]
  ·rw [stE,stE,if_neg zc,if_neg zd,e]
   exact ⟨⟨rfl,⟨h.k,h.s,h.t,h.l,h.q,h.i,h.p,by show cutB c.g = cutB d.g; rw [h.g]⟩,rfl,rfl,rfl,rfl,rfl⟩,True.intro⟩
theorem cnt_eq {t:Tot} {e f:Ev} (h:EvEq e f):cntE t e = cntE t f:=by
 unfold cntE
 rw [h.kind,h.qty,h.price]
theorem wg_eq:∀ {es fs:List Ev} (t:Tot),EsEq es fs→wgT t es = wgT t fs:=by
 have e:∀ {es fs:List Ev} (t:Tot),EsEq es fs→es.foldl cntE t = fs.foldl cntE t:=by
  intro es
  induction es with
  | nil=>intro fs t h; cases fs with | nil=>rfl | cons=>exact h.elim
  | cons a es ih=>intro fs t h; cases fs with
   | nil=>exact h.elim
   | cons b fs=>rw [List.foldl_cons,List.foldl_cons,cnt_eq h.1]; exact ih _ h.2
 intro es fs t h
 unfold wgT
 rw [e _ h]
structure RsEq (s u:RunSt):Prop where
 n:s.n = u.n
 l:s.l = u.l
 g:GsEq s.g u.g
 t:s.t = u.t
theorem rstep_eq {s u:RunSt} {c d:Cm} (h:RsEq s u) (hc:CmEq c d):RsEq (aX s c) (aX u d):=by
 obtain ⟨n,l,g,t⟩:=s
 obtain ⟨n',l',g',t'⟩:=u
 obtain ⟨rfl,rfl,hg,rfl⟩:=h
 obtain ⟨e1,e2,e3⟩:=step_eq (n:=n) (l:=l) hc
 exact ⟨e1,e2,gsEq_snoc hg e3,wg_eq _ e3⟩
theorem fold_eq:∀ {cs ds:List Cm} {s u:RunSt},CsEq cs ds→RsEq s u→RsEq (cs.foldl aX s) (ds.foldl aX u)
 | [],[],_,_,_,h=>h
 | c :: cs,d :: ds,s,u,hc,h=>by rw [List.foldl_cons,List.foldl_cons]; exact fold_eq (cs:=cs) (ds:=ds) hc.2 (rstep_eq h hc.1)
 | [],_ :: _,_,_,hc,_=>hc.elim
 | _ :: _,[],_,_,hc,_=>hc.elim
theorem run_eq {cs ds:List Cm} (h:CsEq cs ds):RsEq (rsF cs) (rsF ds):=by
 have e:RsEq (runS cs) (runS ds):=fold_eq h ⟨rfl,rfl,True.intro,rfl⟩
 rw [rsF,rsF,csEq_len h]
 split
 ·exact ⟨e.n,e.l,e.g,by show wbT (runS cs).t (runS cs).l = wbT (runS ds).t (runS ds).l; rw [e.t,e.l]⟩
 ·exact ⟨rfl,rfl,True.intro,rfl⟩
end Go.Proofs.YtbakanofkghmiaaGreat
namespace Go.Proofs.YtbakanofkghmiaaGreat
open Go.RowKit
theorem box3 (w:World) (bl cl rl:List Value) (T1 T2 T3:TypeId):(((w.alloc (Obj.cells bl.toArray T1)).alloc (Obj.cells cl.toArray T2)).alloc (Obj.cells rl.toArray T3)).heap.size = w.heap.size + 3∧World.rangeAt (((w.alloc (Obj.cells bl.toArray T1)).alloc (Obj.cells cl.toArray T2)).alloc (Obj.cells rl.toArray T3)) w.heap.size 0 bl∧World.rangeAt (((w.alloc (Obj.cells bl.toArray T1)).alloc (Obj.cells cl.toArray T2)).alloc (Obj.cells rl.toArray T3)) (w.heap.size + 1) 0 cl∧World.rangeAt (((w.alloc (Obj.cells bl.toArray T1)).alloc (Obj.cells cl.toArray T2)).alloc (Obj.cells rl.toArray T3)) (w.heap.size + 1 + 1) 0 rl∧World.there (((w.alloc (Obj.cells bl.toArray T1)).alloc (Obj.cells cl.toArray T2)).alloc (Obj.cells rl.toArray T3)) (w.heap.size + 1 + 1) 0 rl.length∧yn w (((w.alloc (Obj.cells bl.toArray T1)).alloc (Obj.cells cl.toArray T2)).alloc (Obj.cells rl.toArray T3)):=by
 have xC:=zh w (Obj.cells bl.toArray T1)
 have ua:((w.alloc (Obj.cells bl.toArray T1)).alloc (Obj.cells cl.toArray T2)).heap.size = w.heap.size + 1 + 1:=by rw [zh,xC]
 have r1:=zi w bl T1
 have r2:=zi (w.alloc (Obj.cells bl.toArray T1)) cl T2
 have r3:=zi ((w.alloc (Obj.cells bl.toArray T1)).alloc (Obj.cells cl.toArray T2)) rl T3
 have t3:=zw ((w.alloc (Obj.cells bl.toArray T1)).alloc (Obj.cells cl.toArray T2)) rl T3
 have b1:=eE w (Obj.cells bl.toArray T1)
 have b2:Below (w.alloc (Obj.cells bl.toArray T1)).heap.size (w.alloc (Obj.cells bl.toArray T1)) ((w.alloc (Obj.cells bl.toArray T1)).alloc (Obj.cells cl.toArray T2)):=eE _ _
 have b3:Below ((w.alloc (Obj.cells bl.toArray T1)).alloc (Obj.cells cl.toArray T2)).heap.size ((w.alloc (Obj.cells bl.toArray T1)).alloc (Obj.cells cl.toArray T2)) (((w.alloc (Obj.cells bl.toArray T1)).alloc (Obj.cells cl.toArray T2)).alloc (Obj.cells rl.toArray T3)):=eE _ _
 rw [xC] at r2
 rw [ua] at r3 t3
 refine ⟨by rw [zh,ua],zb (zb r1 b2 (by omega)) b3 (by omega),zb r2 b3 (by omega),r3,t3,b1.trans ((eH b2 b3).mono b1.size)⟩
theorem there_blk {W W':World} {b o n:Nat} (h:W.there b o n) (X:W'.heap[b]? = W.heap[b]?):W'.there b o n:=fun j R=>by
 rw [yR (a:=(J b (o + j))) X,World.frozen?_of_block (a:=(J b (o + j))) X]; exact h j R
section
variable {C:Nat→Value→Prop} {mb:Nat} {tv:List Value} {base W W':World} {x:List Bool} {f:Nat→Value}
end
theorem below_keptR {mb B:Nat} {w yb W:World} (Q:yn w yb) (N:KeptBut mb B yb W) (hB:w.heap.size ≤ B) (hm:w.heap.size ≤ mb):yn w W :=
 ⟨N.os.trans Q.os,N.tape.trans Q.tape,N.output.trans Q.output,yO Q.size N.size,fun k hk=>(N.block k (by omega) (by omega)).trans (Q.block k hk)⟩
theorem row_end {e sz n mb hj B C:Nat} {v:Value} {xs:List Value} {W V2:World} (h:W.ownsRow B e sz v n xs) (hm:some mb ≠ v.ownBlock) (X:yn W V2) (K:hj < B) (hC:C ≤ B) (us vs:List Value) (o1 o2:Nat):((V2.setCells mb o1 us).setCells hj o2 vs).ownsRow C e sz v n xs:=by
 have Q:V2.ownsRow B e sz v n xs:=World.ownsRow.kept (row:=none) h (aW X tg) (by cases v.ownBlock <;> simp)
 have N:=cH hm us o1 V2 Q
 have h3:=cH (b:=hj) (fun e'=>by have:=(h.lt hj e'.symm).1; omega) vs o2 _ N
 refine ⟨h3.1,?_⟩
 rcases h3.2 with k1 | ⟨g',c',xu,k1,k2,k3⟩
 ·exact .inl k1
 ·exact .inr ⟨g',c',xu,k1,yO hC k2,k3⟩
structure GRs (W:World) (B:Nat) (gv:Value) (gl:List (List Ev)):Prop where
 ex:∃ gs:List Value,GRow W B gv gs∧gs.length = gl.length∧∀ (i:Nat) (g:Value) (es:List Ev),gs[i]? = some g→gl[i]? = some es→ERow W B g es
structure GRa (W:World) (B:Nat) (gv:Value) (gl:List (List Ev)):Prop where
 ex:∃ gs:List Value,GRow W B gv gs∧gs.length = gl.length∧(∀ (i:Nat) (g:Value) (es:List Ev),gs[i]? = some g→gl[i]? = some es→ERow W B g es)∧gs.Pairwise fun g g'=>∀ b b',g.ownBlock = some b→g'.ownBlock = some b'→b < b'
theorem ez (v:Value) (cs:List Cm) (w:World) (hr:RdR Cm.vs 8 w v cs) (kQ:∀ c ∈ cs,c.g.size ≤ maxLen) :
  Calls Tryz.prog 10 #[v] w fun e w'=>∃ gv vq,e = ym (.tuple #[.agg #[gv,H (rsF cs).n,vq,H (rsF cs).t.gr,H (rsF cs).t.ac,H (rsF cs).t.rf,H (rsF cs).t.tr,H (rsF cs).t.vo,H (rsF cs).t.no,H (rsF cs).t.li,H (rsF cs).t.le],H (cntF cs.length)])∧GRa w' w.heap.size gv (rsF cs).g∧ORow w' w.heap.size vq (rsF cs).l∧yn w w':=by
 have HR:=Y hr
 have qn:=Y kQ
 obtain ⟨a,A,rfl,xG,hc⟩:=hr
 have xr:∀ (k:Nat) (c:Cm),cs[k]? = some c→∃ b off,a = some (J b off)∧b < w.heap.size∧w.rangeAt b (off + k * 8) c.vs:=by
  intro k c hk
  obtain ⟨b,off,Q,N,h3⟩:=hc (by intro h; rw [h] at hk; simp at hk)
  exact ⟨b,off,Q,N,h3 k c hk⟩
 have HC:=Y xr
 clear xr hc kQ
 have hsf:=sfl
 have kn:=Y (fun W=>eB cs.length xG W)
 have HCZ:=Y (@dN cs.length)
 have HF:Hid (rsF cs = if cs.length ≤ 200 then { runS cs with t:=wbT (runS cs).t (runS cs).l } else ⟨0,[],[],tot0⟩):=rfl
 generalize rsF cs = ty at HF ⊢
 generalize cntF cs.length = CF at kn HCZ ⊢
 have hbX:=eE w (E #[.slice none 0 0,H 0,.slice none 0 0,H 0,H 0,H 0,H 0,H 0,H 0,H 0,H 0] 32)
 have HX:Hid ((w.alloc (E #[.slice none 0 0,H 0,.slice none 0 0,H 0,H 0,H 0,H 0,H 0,H 0,H 0,H 0] 32)).heap.size = w.heap.size + 1∧World.there (w.alloc (E #[.slice none 0 0,H 0,.slice none 0 0,H 0,H 0,H 0,H 0,H 0,H 0,H 0,H 0] 32)) w.heap.size 0 11):=⟨zh _ _,zw w [.slice none 0 0,H 0,.slice none 0 0,H 0,H 0,H 0,H 0,H 0,H 0,H 0,H 0] 32⟩
 have uA:=Y hbX
 clear hbX
 go_enter Tryz.func10,Tryz.ntmps10
 refine eI fun hR xv=>?_
 go_wp2_with fail
 refine U xv _ _ ?_
 clear xv
 generalize (w.alloc (E #[.slice none 0 0,H 0,.slice none 0 0,H 0,H 0,H 0,H 0,H 0,H 0,H 0,H 0] 32)) = hb at HX uA ⊢
 refine eI fun hR xv=>?_
 go_wp2_with fail
 refine (U kn hb).mono ?_
 rintro e w3 ⟨rfl,hw3⟩
 rw [hw3]
 clear hw3 w3
 by_cases ju:cs.length ≤ 200
 rotate_left
 ·have xB:CF ≠ 0:=fun e=>ju ((U HCZ).1 e)
  have hneb:(CF != 0) = true:=by simpa using xB
  have qz:Hid (ty = ⟨0,[],[],tot0⟩):=(U HF).trans (if_neg ju)
  obtain ⟨y0,z0,q0⟩:=ze (U HX).2 (j:=0) (by omega)
  obtain ⟨y1,z1,q1⟩:=ze (U HX).2 (j:=1) (by omega)
  obtain ⟨y2,z2,q2⟩:=ze (U HX).2 (j:=2) (by omega)
  obtain ⟨y3,z3,q3⟩:=ze (U HX).2 (j:=3) (by omega)
  obtain ⟨y4,z4,q4⟩:=ze (U HX).2 (j:=4) (by omega)
  obtain ⟨y5,z5,q5⟩:=ze (U HX).2 (j:=5) (by omega)
  obtain ⟨y6,z6,q6⟩:=ze (U HX).2 (j:=6) (by omega)
  obtain ⟨y7,z7,q7⟩:=ze (U HX).2 (j:=7) (by omega)
  obtain ⟨y8,z8,q8⟩:=ze (U HX).2 (j:=8) (by omega)
  obtain ⟨y9,z9,q9⟩:=ze (U HX).2 (j:=9) (by omega)
  obtain ⟨y10,z10,q10⟩:=ze (U HX).2 (j:=10) (by omega)
  have xR:=Y (yY hb w.heap.size 0 [.slice none 0 0,H 0,.slice none 0 0,H 0,H 0,H 0,H 0,H 0,H 0,H 0,H 0] (fun j R=>(U HX).2 j R))
  have qf:=Y (zo w.heap.size tg [.slice none 0 0,H 0,.slice none 0 0,H 0,H 0,H 0,H 0,H 0,H 0,H 0,H 0] 0 hb (U uA))
  clear HF kn HCZ HC
  go_wp2_with fail
  change bodyPost _ _ _ _ _ (hb.setCells w.heap.size 0 [.slice none 0 0,H 0,.slice none 0 0,H 0,H 0,H 0,H 0,H 0,H 0,H 0,H 0])
  generalize hb.setCells w.heap.size 0 [.slice none 0 0,H 0,.slice none 0 0,H 0,H 0,H 0,H 0,H 0,H 0,H 0,H 0] = WE at xR qf ⊢
  obtain rfl:=U qz
  have d0:WE.cell? (yq w 0) = some (.slice none 0 0):=U xR 0 _ rfl
  have d1:WE.cell? (yq w 1) = some (H 0):=U xR 1 _ rfl
  have d2:WE.cell? (yq w 2) = some (.slice none 0 0):=U xR 2 _ rfl
  have d3:WE.cell? (yq w 3) = some (H 0):=U xR 3 _ rfl
  have d4:WE.cell? (yq w 4) = some (H 0):=U xR 4 _ rfl
  have d5:WE.cell? (yq w 5) = some (H 0):=U xR 5 _ rfl
  have d6:WE.cell? (yq w 6) = some (H 0):=U xR 6 _ rfl
  have d7:WE.cell? (yq w 7) = some (H 0):=U xR 7 _ rfl
  have d8:WE.cell? (yq w 8) = some (H 0):=U xR 8 _ rfl
  have d9:WE.cell? (yq w 9) = some (H 0):=U xR 9 _ rfl
  have d10:WE.cell? (yq w 10) = some (H 0):=U xR 10 _ rfl
  refine bodyPost_ret (by simp [results,Tryz.results10,go_sem,d0,d1,d2,d3,d4,d5,d6,d7,d8,d9,d10]; try rfl) rfl ?_
  exact ⟨_,_,rfl,⟨[],World.ownsRow_nil _ _ _ _,rfl,(fun i g es hg=>by simp at hg),List.Pairwise.nil⟩,World.ownsRow_nil _ _ _ _,U qf⟩
 have hz:CF = 0:=(U HCZ).2 ju
 have hzb:(CF != 0) = false:=by rw [hz]; rfl
 have qz:Hid (ty = { runS cs with t:=wbT (runS cs).t (runS cs).l }):=(U HF).trans (if_pos ju)
 have HIV:=Y (da cs ju)
 subst hz
 clear HF kn HCZ
 go_wp2_with fail
 refine U xv _ _ ?_
 clear xv
 have vp:=eE hb (E #[.slice none 0 0,H 1,.slice none 0 0,H 0,H 0,H 0,H 0,H 0,H 0,H 0,H 0,.slice none 0 0] 71)
 have qL:Hid (EnS hb.heap.size hb.heap.size (hb.alloc (E #[.slice none 0 0,H 1,.slice none 0 0,H 0,H 0,H 0,H 0,H 0,H 0,H 0,H 0,.slice none 0 0] 71)).heap.size (hb.alloc (E #[.slice none 0 0,H 1,.slice none 0 0,H 0,H 0,H 0,H 0,H 0,H 0,H 0,H 0,.slice none 0 0] 71)) (.slice none 0 0) [] [] 1 (.slice none 0 0) [] tot0 (.slice none 0 0) []):=⟨zi hb [.slice none 0 0,H 1,.slice none 0 0,H 0,H 0,H 0,H 0,H 0,H 0,H 0,H 0,.slice none 0 0] _,zw hb [.slice none 0 0,H 1,.slice none 0 0,H 0,H 0,H 0,H 0,H 0,H 0,H 0,H 0,.slice none 0 0] _,World.ownsRow_nil _ _ _ _,rfl,fun i g es hg=>by simp at hg,⟨fun g hg=>by simp at hg,List.Pairwise.nil⟩,World.ownsRow_nil _ _ _ _,World.ownsRow_nil _ _ _ _,⟨_,heap_alloc_new hb _⟩,vp.size,Nat.le_refl _⟩
 have oA:=Y vp
 clear vp
 refine eI fun hR xv=>?_
 go_wp2_with fail
 refine U xv _ _ ?_
 clear xv
 generalize (hb.alloc (E #[.slice none 0 0,H 1,.slice none 0 0,H 0,H 0,H 0,H 0,H 0,H 0,H 0,H 0,.slice none 0 0] 71)) = yb at qL oA ⊢
 refine eI fun hR xv=>?_
 go_wp2_with fail
 go_loopw [20] (fun iv wr=>∃ (k:Nat),k ≤ cs.length∧iv = H k∧Hid ((∃ Bo gv gs vq,EnS hb.heap.size hb.heap.size Bo wr gv gs (runS (cs.take k)).g (runS (cs.take k)).n vq (runS (cs.take k)).l (runS (cs.take k)).t (.slice none 0 0) [])∧KeptBut hb.heap.size hb.heap.size yb wr)) (fun iv _=>cs.length - (intOf iv).toNat)
 case atStart=>exact ⟨0,Nat.zero_le _,rfl,⟨_,_,_,_,U qL⟩,⟨rfl,rfl,rfl,Nat.le_refl _,fun _ _ _=>rfl⟩⟩
 case round =>
  obtain ⟨k,hk,rfl,ux⟩:=hrel
  obtain ⟨⟨Bo,gv,gs,vq,hE⟩,hkb⟩:=U ux
  have HE:=Y hE
  have HKB:=Y hkb
  have xK:=Y (below_keptR ((U uA).trans ((U oA).mono (U uA).size)) hkb (U uA).size (U uA).size)
  clear ux hE hkb
  by_cases xL:k < cs.length
  ·obtain ⟨e,jh⟩:∃ e,cs[k]? = some e:=⟨_,yI xL⟩
   obtain ⟨b,off,rfl,X,xp⟩:=U HC k e jh
   have vF:=Y (cZ cs jh)
   have uy:(k:Int) < cs.length:=by omega
   obtain ⟨g0,g1,g2,g3,g4,g5,g6,g7⟩:=cm_cells (zb xp (U xK) X)
   obtain ⟨ph,hi2,hi3,hi4⟩:=U HIV k hk
   have htge:=U qn e (yP jh)
   have jX:=(U HE).glen
   have hbA:=eE wr (E (yx e.k e.s e.t e.l e.q e.i e.p e.g).toArray 43)
   have HDO:=Y (doE_any e _ (zP (U HE) hbA) ph.good (by omega) (by omega) htge (by omega))
   have HKA:=Y (zk (U HKB) (zC (mb:=hb.heap.size) (B:=hb.heap.size) hbA (yO (U HE).bo (U HE).le)))
   unfold cmV at HDO
   clear xp X hbA ph hi2 hi3 hi4 htge jX jh
   go_wp2_with fail
   refine (U HDO).mono ?_
   rintro r w5 ⟨rfl,⟨Bo5,gv5,gs5,vq5,qO⟩,hk5⟩
   have qc:=Y qO
   have kq:=Y (zk (U HKA) hk5)
   clear qO hk5 HDO g0 g1 g2 g3 g4 g5 g6 g7
   go_wp2_with fail
   go_roundw
   case rel=>exact ⟨k + 1,by omega,by go_num,⟨Bo5,gv5,gs5,vq5,by rw [U vF]; exact U qc⟩,U kq⟩
   case measure=>simp [intOf]; omega
  ·have uy:¬ (k:Int) < cs.length:=by omega
   rw [xa (by omega)] at HE
   go_wp2_with fail
   refine U xv _ _ ?_
   clear xv xL uy
   have hI:=run_inv cs ju
   generalize runS cs = s at HE qz hI
   obtain ⟨sn,sl,sg,st⟩:=s
   simp only at HE qz hI
   have kz:=hI.1.good.len
   obtain ⟨av,cv,hv⟩:=zU (U HE).orow
   subst hv
   obtain ⟨ga,gc,hgv⟩:=zU (U HE).grow
   subst hgv
   have HRO:=Y (zN (U HE).orow (by omega))
   have jY:=(U HE).lt
   have HWB:=Y (fun V hV=>withBook_any st sn (.slice av sl.length cv) sl V hV)
   generalize wbT st sl = T at HWB qz
   have HT:Hid (wr.rangeAt hb.heap.size 3 st.vs):=fun j u R=>by
    have:=(U HE).cells (3 + j) u (by
     match j,R with
     | 0,R | 1,R | 2,R | 3,R | 4,R | 5,R | 6,R | 7,R=>exact R
     | j + 8,R=>simp [Tot.vs] at R)
    rwa [Nat.zero_add] at this
   have jF:Hid (wr.there hb.heap.size 3 8):=fun j R=>by
    have:=(U HE).there (3 + j) (by omega)
    rwa [Nat.zero_add] at this
   have HM0:Hid (wr.cell? (yq hb 0) = some (.slice ga gs.length gc)):=(U HE).cells 0 _ rfl
   have qd:Hid (wr.cell? (yq hb 1) = some (H sn)):=(U HE).cells 1 _ rfl
   have vC:Hid (wr.cell? (yq hb 2) = some (.slice av sl.length cv)):=(U HE).cells 2 _ rfl
   have vV:Hid (wr.there w.heap.size 0 11):=there_blk (zg (U HX).2 (U oA) (by have:=(U HX).1; omega)) ((U HKB).block _ (by have:=(U HX).1; omega) (by have:=(U HX).1; omega))
   obtain ⟨uf,ue,uh,ui,uj,ug,uu,ut⟩:=T
   simp only at HWB
   have n1:=U qd
   have n2:=U vC
   have n3:wr.cell? (yq hb 3) = some (H st.gr):=U HT 0 _ rfl
   have n4:wr.cell? (yq hb 4) = some (H st.ac):=U HT 1 _ rfl
   have n5:wr.cell? (yq hb 5) = some (H st.rf):=U HT 2 _ rfl
   have n6:wr.cell? (yq hb 6) = some (H st.tr):=U HT 3 _ rfl
   have n7:wr.cell? (yq hb 7) = some (H st.vo):=U HT 4 _ rfl
   have n8:wr.cell? (yq hb 8) = some (H st.no):=U HT 5 _ rfl
   have n9:wr.cell? (yq hb 9) = some (H st.li):=U HT 6 _ rfl
   have pU:wr.cell? (yq hb 10) = some (H st.le):=U HT 7 _ rfl
   refine eI fun hR xv=>?_
   go_wp2_with fail
   refine (U HWB wr (U HRO)).mono ?_
   rintro e V2 ⟨rfl,xX⟩
   clear n1 n2 n3 n4 n5 n6 n7 n8 n9 pU
   have xF:=zg (U jF) xX jY
   obtain ⟨y0,z0,q0⟩:=bm xF (j:=0) (by omega)
   obtain ⟨y1,z1,q1⟩:=bm xF (j:=1) (by omega)
   obtain ⟨y2,z2,q2⟩:=bm xF (j:=2) (by omega)
   obtain ⟨y3,z3,q3⟩:=bm xF (j:=3) (by omega)
   obtain ⟨y4,z4,q4⟩:=bm xF (j:=4) (by omega)
   obtain ⟨y5,z5,q5⟩:=bm xF (j:=5) (by omega)
   obtain ⟨y6,z6,q6⟩:=bm xF (j:=6) (by omega)
   obtain ⟨y7,z7,q7⟩:=bm xF (j:=7) (by omega)
   clear xF
   have uO:=Y xX
   clear xX
   go_wp2_with fail
   refine U xv _ _ ?_
   clear xv z0 q0 z1 q1 z2 q2 z3 q3 z4 q4 z5 q5 z6 q6 z7 q7
   change Code.wp _ _ _ _ (V2.setCells hb.heap.size 3 (Tot.mk uf ue uh ui uj ug uu ut).vs)
   have xX:=U uO
   generalize eV':V2.setCells hb.heap.size 3 (Tot.mk uf ue uh ui uj ug uu ut).vs = V
   have eV:=eV'.symm
   clear eV'
   have xE:=Y xX
   have vH:=Y eV
   have kJ:hb.heap.size < V2.heap.size:=yK jY xX.size
   have HC0:Hid (∀ j u,j < 3→wr.cell? (yq hb j) = some u→V.cell? (yq hb j) = some u):=fun j u R hu=>by
    rw [eV]
    refine (World.cell?_setCells_out hb.heap.size _ 3 V2 (yq hb j) (fun _ _=>.inl R)).trans ?_
    exact (xX.cell (p:=(yq hb j)) jY).trans hu
   have je:Hid (V.rangeAt hb.heap.size 3 (Tot.mk uf ue uh ui uj ug uu ut).vs):=by
    rw [eV]
    exact yY V2 hb.heap.size 3 _ (fun j R=>by
     have:=zg (U jF) xX jY j (by simpa [Tot.vs] using R)
     exact this)
   have qB:Hid (V.there w.heap.size 0 11):=by
    rw [eV]
    exact there_blk (zg (U vV) xX (by have:=(U HX).1; omega)) (di hb.heap.size w.heap.size (by have:=(U HX).1; omega) _ 3 V2)
   have xB:w.heap.size ≠ hb.heap.size:=by have:=(U HX).1; omega
   have xw:Hid (yn w V):=by
    rw [eV]
    exact zo hb.heap.size (U uA).size _ 3 V2 (eH (U xK) xX)
   clear eV xX
   have m0:=U HC0 0 _ (by omega) (U HM0)
   have m1:=U HC0 1 _ (by omega) (U qd)
   have m2:=U HC0 2 _ (by omega) (U vC)
   have m3:V.cell? (yq hb 3) = some (H uf):=U je 0 _ rfl
   have m4:V.cell? (yq hb 4) = some (H ue):=U je 1 _ rfl
   have m5:V.cell? (yq hb 5) = some (H uh):=U je 2 _ rfl
   have m6:V.cell? (yq hb 6) = some (H ui):=U je 3 _ rfl
   have m7:V.cell? (yq hb 7) = some (H uj):=U je 4 _ rfl
   have m8:V.cell? (yq hb 8) = some (H ug):=U je 5 _ rfl
   have m9:V.cell? (yq hb 9) = some (H uu):=U je 6 _ rfl
   have m10:V.cell? (yq hb 10) = some (H ut):=U je 7 _ rfl
   obtain ⟨y0,z0,q0⟩:=ze (U qB) (j:=0) (by omega)
   obtain ⟨y1,z1,q1⟩:=ze (U qB) (j:=1) (by omega)
   obtain ⟨y2,z2,q2⟩:=ze (U qB) (j:=2) (by omega)
   obtain ⟨y3,z3,q3⟩:=ze (U qB) (j:=3) (by omega)
   obtain ⟨y4,z4,q4⟩:=ze (U qB) (j:=4) (by omega)
   obtain ⟨y5,z5,q5⟩:=ze (U qB) (j:=5) (by omega)
   obtain ⟨y6,z6,q6⟩:=ze (U qB) (j:=6) (by omega)
   obtain ⟨y7,z7,q7⟩:=ze (U qB) (j:=7) (by omega)
   obtain ⟨y8,z8,q8⟩:=ze (U qB) (j:=8) (by omega)
   obtain ⟨y9,z9,q9⟩:=ze (U qB) (j:=9) (by omega)
   obtain ⟨y10,z10,q10⟩:=ze (U qB) (j:=10) (by omega)
   have xR:=Y (yY V w.heap.size 0 [.slice ga gs.length gc,H sn,.slice av sl.length cv,H uf,H ue,H uh,H ui,H uj,H ug,H uu,H ut] (fun j R=>U qB j R))
   have qf:=Y (zo w.heap.size tg [.slice ga gs.length gc,H sn,.slice av sl.length cv,H uf,H ue,H uh,H ui,H uj,H ug,H uu,H ut] 0 V (U xw))
   have vK:Hid (∀ {e sz n:Nat} {v:Value} {xs:List Value},wr.ownsRow hb.heap.size e sz v n xs→71 ≠ e→World.ownsRow (V.setCells w.heap.size 0 [.slice ga gs.length gc,H sn,.slice av sl.length cv,H uf,H ue,H uh,H ui,H uj,H ug,H uu,H ut]) w.heap.size e sz v n xs):=fun {e sz n v xs} h hne'=>by
    rw [U vH]
    exact row_end h (zl h (U HE).box hne') (U xE) (by have:=(U HX).1; omega) (U uA).size _ _ _ _
   have HG:Hid (GRa (V.setCells w.heap.size 0 [.slice ga gs.length gc,H sn,.slice av sl.length cv,H uf,H ue,H uh,H ui,H uj,H ug,H uu,H ut]) w.heap.size (.slice ga gs.length gc) sg):=⟨gs,U vK (U HE).grow (by decide),(U HE).glen,fun i g es hg uS=>U vK ((U HE).geach i g es hg uS) (by decide),(U HE).glt.2⟩
   have HO:Hid (ORow (V.setCells w.heap.size 0 [.slice ga gs.length gc,H sn,.slice av sl.length cv,H uf,H ue,H uh,H ui,H uj,H ug,H uu,H ut]) w.heap.size (.slice av sl.length cv) sl):=U vK (U HE).orow (by decide)
   clear vK
   go_wp2_with fail
   change bodyPost _ _ _ _ _ (V.setCells w.heap.size 0 [.slice ga gs.length gc,H sn,.slice av sl.length cv,H uf,H ue,H uh,H ui,H uj,H ug,H uu,H ut])
   generalize V.setCells w.heap.size 0 [.slice ga gs.length gc,H sn,.slice av sl.length cv,H uf,H ue,H uh,H ui,H uj,H ug,H uu,H ut] = WE at xR qf HG HO ⊢
   obtain rfl:=U qz
   have d0:WE.cell? (yq w 0) = some (.slice ga gs.length gc):=U xR 0 _ rfl
   have d1:WE.cell? (yq w 1) = some (H sn):=U xR 1 _ rfl
   have d2:WE.cell? (yq w 2) = some (.slice av sl.length cv):=U xR 2 _ rfl
   have d3:WE.cell? (yq w 3) = some (H uf):=U xR 3 _ rfl
   have d4:WE.cell? (yq w 4) = some (H ue):=U xR 4 _ rfl
   have d5:WE.cell? (yq w 5) = some (H uh):=U xR 5 _ rfl
   have d6:WE.cell? (yq w 6) = some (H ui):=U xR 6 _ rfl
   have d7:WE.cell? (yq w 7) = some (H uj):=U xR 7 _ rfl
   have d8:WE.cell? (yq w 8) = some (H ug):=U xR 8 _ rfl
   have d9:WE.cell? (yq w 9) = some (H uu):=U xR 9 _ rfl
   have d10:WE.cell? (yq w 10) = some (H ut):=U xR 10 _ rfl
   refine bodyPost_ret (by simp [results,Tryz.results10,go_sem,d0,d1,d2,d3,d4,d5,d6,d7,d8,d9,d10]; try rfl) rfl ?_
   exact ⟨_,_,rfl,U HG,U HO,U qf⟩
def livS (l:List Od):Int:=l.foldl (fun n o=>wrap64 (n + o.left)) 0
theorem liv_step (l:List Od) {k:Nat} {o:Od} (h:l[k]? = some o):livS (l.take (k + 1)) = wrap64 (livS (l.take k) + o.left):=by
 unfold livS
 rw [List.take_add_one,h,List.foldl_append]; rfl
theorem l04Live_any (next:Int) (v:Value) (l:List Od) (w:World) (hr:RdR Od.vs 6 w v l) :
  Calls Tryz.prog 121 #[.agg #[H next,v]] w fun r w'=>r = ym (.tuple #[H l.length,H (livS l)])∧yn w w':=by
 obtain ⟨a,A,rfl,xG,hc⟩:=hr
 have xr:∀ (k:Nat) (c:Od),l[k]? = some c→∃ b off,a = some (J b off)∧b < w.heap.size∧w.rangeAt b (off + k * 6) c.vs:=by
  intro k c hk
  obtain ⟨b,off,Q,N,h3⟩:=hc (by intro h; rw [h] at hk; simp at hk)
  exact ⟨b,off,Q,N,h3 k c hk⟩
 have HC:=Y xr
 clear xr hc
 have b1:=eE w (E #[H next,.slice a l.length A] 28)
 have HX:Hid (_∧_∧_):=⟨zi w [H next,.slice a l.length A] 28,b1,zh w (E #[H next,.slice a l.length A] 28)⟩
 clear b1
 go_enter Tryz.func121,Tryz.ntmps121
 refine eI fun hR xv=>?_
 go_wp2_with fail
 refine U xv _ _ ?_
 clear xv
 change Hid (World.rangeAt (w.alloc (E #[H next,.slice a l.length A] 28)) w.heap.size 0 [H next,.slice a l.length A]∧yn w (w.alloc (E #[H next,.slice a l.length A] 28))∧(w.alloc (E #[H next,.slice a l.length A] 28)).heap.size = w.heap.size + 1) at HX
 generalize (w.alloc (E #[H next,.slice a l.length A] 28)) = hb at HX ⊢
 have c1:hb.cell? (yq w 1) = some (.slice a l.length A):=(U HX).1 1 _ rfl
 go_wp2_with fail
 go_loopw [4,5] (fun nv iv wr=>wr = hb∧∃ (k:Nat),k ≤ l.length∧iv = H k∧∃ n:Int,nv = H n∧Hid (n = livS (l.take k))) (fun _ iv _=>l.length - (intOf iv).toNat)
 case atStart=>exact ⟨rfl,0,Nat.zero_le _,rfl,0,rfl,rfl⟩
 case round =>
  obtain ⟨rfl,k,hk,rfl,n,rfl,hn⟩:=hrel
  by_cases xL:k < l.length
  ·obtain ⟨e,jh⟩:∃ e,l[k]? = some e:=⟨_,yI xL⟩
   obtain ⟨b,off,rfl,X,xp⟩:=U HC k e jh
   have vF:=Y (liv_step l jh)
   have uy:(k:Int) < l.length:=by omega
   obtain ⟨g0,g1,g2,g3,g4,g5⟩:=zF (zb xp (U HX).2.1 X)
   clear jh xp X
   go_wp2_with fail
   go_roundw
   case rel=>exact ⟨trivial,k + 1,by omega,by go_num,_,rfl,Y (by rw [U vF,U hn])⟩
   case measure=>simp [intOf]; omega
  ·have uy:¬ (k:Int) < l.length:=by omega
   rw [xa (by omega)] at hn
   have HB:=Y (U HX).2.1
   clear HX
   go_wp2_with fail
   try simp only [Exit.inBlock,Exit.then]
   refine bodyPost_ret (by simp [results,Tryz.results121,go_sem]; try rfl) rfl ?_
   exact ⟨by rw [U hn],U HB⟩
end Go.Proofs.YtbakanofkghmiaaGreat
