/-.-/
import Derived.Test.YtkofhemdefffpaaGreatDoorPq46
import Derived.Test.YtkofhemdefffpaaGreatDoorPq47
set_option linter.unusedVariables false
set_option maxHeartbeats 6400000
set_option maxRecDepth 100000
namespace Go.Proofs.YtkofhemdefffpaaGreatDoor
open Go.RowKit
def exL (l:List Int):List Cm:=if 65536<l.length then[] else if (judJ l).2.2=0 then(judJ l).1 else[]
def exC (l:List Int):Int:=if 65536<l.length then 2 else if (judJ l).2.2=0 then 0 else 8
theorem set13 (W:World)(b:Nat)(v0 v1 v2 v3 v4 v5 v6 v7 v8 v9 v10 v11 v12:Value):((((((((((((W.setCell (Y b 0) v0).setCell (Y b 1) v1).setCell (Y b 2) v2).setCell (Y b 3) v3).setCell (Y b 4) v4).setCell (Y b 5) v5).setCell (Y b 6) v6).setCell (Y b 7) v7).setCell (Y b 8) v8).setCell (Y b 9) v9).setCell (Y b 10) v10).setCell (Y b 11) v11).setCell (Y b 12) v12=W.setCells b 0 [v0,v1,v2,v3,v4,v5,v6,v7,v8,v9,v10,v11,v12]:=by
 simp only[World.setCells]
structure JL0 (w:World) (zb:Nat) (cs:List Cm) (vq vt:Value) (W:World):Prop where
 jg:JG zb w.heap.size W cs vq vt
 b2:Bx W w.heap.size [.int .i64 0,.slice none 0 0,.int .i64 0,.int .i64 0,.int .i64 0,.int .i64 0,.int .i64 0,.int .i64 0,.int .i64 0,.int .i64 0,.slice none 0 0,.int .i64 0,.int .i64 0]
 t2:∃cur,W.heap[w.heap.size]? = some (.cells cur 46 (0,0))
 b3:Bx W (w.heap.size+1) [.bool false,.int .i64 0,.int .i64 0]
 t3:∃cur,W.heap[w.heap.size+1]? = some (.cells cur 66 (0,0))
 bel:Below w.heap.size w W
 hJ:w.heap.size+1<zb
structure JL (w:World) (zb S:Nat) (s:Int) (cs:List Cm) (vq vt:Value) (W:World):Prop where
 j0:JL0 w zb cs vq vt W
 sb:Bx W S [.int .i64 s]
 ts:∃cur,W.heap[S]? = some (.cells cur 3 (0,0))
 hS:zb<S
 hl:S<W.heap.size
theorem gX {w:World}{zb:Nat}{cs:List Cm}{vq vt:Value}{W W':World}(h:JL0 w zb cs vq vt W)(K:yp W W'):JL0 w zb cs vq vt W':=by
 have Z:=h.hJ;have Q:=h.jg.lt;exact⟨jg_below h.jg K,zl h.b2 K (by omega),typ_below h.t2 K,zl h.b3 K (by omega),typ_below h.t3 K,h.bel.trans (K.mono h.bel.size),Z⟩
theorem jl_below {w:World}{zb S:Nat}{s:Int}{cs:List Cm}{vq vt:Value}{W W':World}(h:JL w zb S s cs vq vt W)(K:yp W W'):JL w zb S s cs vq vt W':=
 ⟨gX h.j0 K,zl h.sb K h.hl,typ_below h.ts K,h.hS,yK h.hl K.size⟩
theorem jl_kp {w:World}{zb S:Nat}{s:Int}{cs cs':List Cm}{vq vt uB ow:Value}{W W':World}(h:JL w zb S s cs vq vt W)(E:Kp zb vt W W')(hj:JG zb w.heap.size W' cs' uB ow):JL w zb S s cs' uB ow W':=by
 have Z:=h.j0.hJ;have Q:=h.hS;have I:=h.hl;have blk:∀ {b:Nat} {T:TypeId},b<W.heap.size->b≠zb->T ≠ 37->(∃xt,W.heap[b]? = some (.cells xt T (0,0)))->W'.heap[b]? = W.heap[b]?:=fun K hn hT ht=>E.block _ K hn (zF h.j0.jg.told ht hT);have e2:=blk (b:=w.heap.size) (by omega) (by omega) (by decide) h.j0.t2;have e3:=blk (b:=w.heap.size+1) (by omega) (by omega) (by decide) h.j0.t3;have es:=blk (b:=S) I (by omega) (by decide) h.ts;have tp:∀ {b:Nat} {T:TypeId},W'.heap[b]? = W.heap[b]?->(∃xt,W.heap[b]? = some (.cells xt T (0,0)))->∃xt,W'.heap[b]? = some (.cells xt T (0,0)):=fun e ⟨xt,hc⟩=>⟨xt,e.trans hc⟩;refine⟨⟨hj,dm h.j0.b2 e2,tp e2 h.j0.t2,dm h.j0.b3 e3,tp e3 h.j0.t3,?_,Z⟩,dm h.sb es,tp es h.ts,Q,yK I E.size⟩;refine⟨E.os.trans h.j0.bel.os,E.tape.trans h.j0.bel.tape,E.output.trans h.j0.bel.output,yO h.j0.bel.size E.size,fun k hl=>?_⟩;refine(E.block k (yK hl h.j0.bel.size) (by omega) (fun e=>?_)).trans (h.j0.bel.block k hl);have:=(h.j0.jg.told.lt k e.symm).1;omega
theorem jl_sum {w:World}{zb S:Nat}{s:Int}{cs:List Cm}{vq vt:Value}{W:World}(h:JL w zb S s cs vq vt W)(s':Int):JL w zb S s' cs vq vt (W.setCell (Y S 0) (H s')):=by
 have Z:=h.j0.hJ;have Q:=h.hS;have oth:∀ {b:Nat},b≠S->(W.setCell (Y S 0) (H s')).heap[b]? = W.heap[b]?:=fun K=>yT _ _ _ _ K;have tp:∀ {b:Nat} {T:TypeId},b≠S->(∃xt,W.heap[b]? = some (.cells xt T (0,0)))->∃xt,(W.setCell (Y S 0) (H s')).heap[b]? = some (.cells xt T (0,0)):=fun K ⟨xt,hc⟩=>⟨xt,(oth K).trans hc⟩;exact⟨⟨⟨dm h.j0.jg.box (oth (by omega)),tp (by omega) h.j0.jg.typ,zX h.j0.jg.row (zF h.j0.jg.row h.ts (by decide)) 0 _,zX h.j0.jg.told (zF h.j0.jg.told h.ts (by decide)) 0 _,h.j0.jg.hJ⟩,fO h.j0.b2 (by omega),tp (by omega) h.j0.t2,fO h.j0.b3 (by omega),tp (by omega) h.j0.t3,zj S (by omega) [H s'] 0 W h.j0.bel,Z⟩,eO (j:=0) h.sb (by show 0<1;decide),gT h.ts,Q,by have:=h.hl;simpa[World.setCell] using this⟩
theorem run_gr (cs:List Cm)(h:cs.length<=200):(runS cs).t.gr=cs.length:=by
 have e:(runS cs).t=(runS cs).g.foldl wgT tot0:=run_fold cs ⟨1,[],[],tot0⟩ rfl;have hl:=(iu cs h).2.2.2;rw[e,(wg_al (runS cs).g (t:=tot0) (u:=tot0) ⟨rfl,rfl,rfl,rfl,rfl⟩ (by decide) (by rw[hl];show(0:Int) + _ <= _;omega)).2.1,hl];show(0:Int) + _ = _;omega
theorem evsJ_bad {p:List Int}:∀(f k:Nat) (g:Gr) (es:List Ev) (q:Nat) (r:Int),evsJ p f k g es = .bad q r->r≠0/\q<=p.length
 | 0,k,g,es,q,r,h=>by rw[evsJ] at h;cases h
 | f+1,k,g,es,q,r,h=>by
  rw[evsJ] at h;split at h
  ·cases h
  cases he:evA p k with
  | none=>rw[he] at h;cases h;exact⟨by decide,by omega⟩
  | some x =>
   obtain⟨e,n⟩:=x;rw[he] at h;simp only at h;split at h
   ·exact evsJ_bad f _ _ _ _ _ h
   ·rename_i h0;cases h;exact⟨h0,by omega⟩
theorem grpJ_rule {p:List Int}{cs:List Cm}{q:Nat}{r:Int}(h:grpJ p cs = .inl (q,r)):r≠0/\q<=p.length:=by
 unfold grpJ at h;split at h
 ·rename_i Z;cases h;exact evsJ_bad _ _ _ _ _ _ Z
 ·split at h
  ·cases h
  ·cases h;exact⟨by decide,Nat.le_refl _⟩
def JtE (w:World)(r:List Cm × Nat × Int)(e:Ending)(w':World):Prop:=∃vq vt,e=yn (.tuple #[.agg (jgV r.1 vq vt).toArray,vdV r.2])/\ORow w' w.heap.size vq (runS r.1).l/\w'.ownsRow w.heap.size 37 8 vt r.1.length (r.1.flatMap Cm.vs)/\yp w w'
theorem jl_end {w:World}{zb:Nat}{cs:List Cm}{qa ta:Option Addr}{qc tc:Nat}{W:World}(h:JL0 w zb cs (.slice qa (runS cs).l.length qc) (.slice ta cs.length tc) W)(x:Nat × Int){b:Bool}(K:b=decide (x.2=0)) :
  Bx ((W.setCells w.heap.size 0 [H (runS cs).n,.slice qa (runS cs).l.length qc,H (runS cs).t.gr,H (runS cs).t.ac,H (runS cs).t.rf,H (runS cs).t.tr,H (runS cs).t.vo,H (runS cs).t.no,H (runS cs).t.li,H (runS cs).t.le,.slice ta cs.length tc,H (pkO cs),H (pkL cs)]).setCells (w.heap.size+1) 0 [.bool b,H x.1,H x.2]) w.heap.size [H (runS cs).n,.slice qa (runS cs).l.length qc,H (runS cs).t.gr,H (runS cs).t.ac,H (runS cs).t.rf,H (runS cs).t.tr,H (runS cs).t.vo,H (runS cs).t.no,H (runS cs).t.li,H (runS cs).t.le,.slice ta cs.length tc,H (pkO cs),H (pkL cs)]/\Bx ((W.setCells w.heap.size 0 [H (runS cs).n,.slice qa (runS cs).l.length qc,H (runS cs).t.gr,H (runS cs).t.ac,H (runS cs).t.rf,H (runS cs).t.tr,H (runS cs).t.vo,H (runS cs).t.no,H (runS cs).t.li,H (runS cs).t.le,.slice ta cs.length tc,H (pkO cs),H (pkL cs)]).setCells (w.heap.size+1) 0 [.bool b,H x.1,H x.2]) (w.heap.size+1) [.bool b,H x.1,H x.2] /\
  JtE w (cs,x) (yn (.tuple #[.agg #[H (runS cs).n,.slice qa (runS cs).l.length qc,H (runS cs).t.gr,H (runS cs).t.ac,H (runS cs).t.rf,H (runS cs).t.tr,H (runS cs).t.vo,H (runS cs).t.no,H (runS cs).t.li,H (runS cs).t.le,.slice ta cs.length tc,H (pkO cs),H (pkL cs)],.agg #[.bool b,H x.1,H x.2]])) ((W.setCells w.heap.size 0 [H (runS cs).n,.slice qa (runS cs).l.length qc,H (runS cs).t.gr,H (runS cs).t.ac,H (runS cs).t.rf,H (runS cs).t.tr,H (runS cs).t.vo,H (runS cs).t.no,H (runS cs).t.li,H (runS cs).t.le,.slice ta cs.length tc,H (pkO cs),H (pkL cs)]).setCells (w.heap.size+1) 0 [.bool b,H x.1,H x.2]):=by
 have Z:=h.hJ
 have n2:∀ {e z n:Nat} {v:Value} {xs:List Value},W.ownsRow w.heap.size e z v n xs->46 ≠ e->66 ≠ e->((W.setCells w.heap.size 0 [H (runS cs).n,.slice qa (runS cs).l.length qc,H (runS cs).t.gr,H (runS cs).t.ac,H (runS cs).t.rf,H (runS cs).t.tr,H (runS cs).t.vo,H (runS cs).t.no,H (runS cs).t.li,H (runS cs).t.le,.slice ta cs.length tc,H (pkO cs),H (pkL cs)]).setCells (w.heap.size+1) 0 [.bool b,H x.1,H x.2]).ownsRow w.heap.size e z v n xs:=fun D hA hB =>
  iM (zF D h.t3 hB) _ _ _ (iM (zF D h.t2 hA) _ _ _ D)
 refine⟨bx_others (zy h.b2 rfl) (by omega),zy (bx_others h.b3 (by omega)) rfl,_,_,by rw[K];rfl,n2 h.jg.row (by decide) (by decide),n2 h.jg.told (by decide) (by decide),zj _ (by omega) _ _ _ (zj _ yb _ _ _ h.bel)⟩
theorem drew_sets (b:Nat):∀(vs:List Value) (o:Nat) (W:World),(W.setCells b o vs).drew=W.drew.setCells b o vs
 | [],_,_=>rfl
 | v::vs,o,W=>by rw[World.setCells,World.setCells,drew_sets b vs];rfl
theorem jt_ret {w:World}{zb:Nat}{cs:List Cm}{qa ta:Option Addr}{qc tc:Nat}{W:World}(h:JL0 w zb cs (.slice qa (runS cs).l.length qc) (.slice ta cs.length tc) W)(x:Nat × Int){b:Bool}(K:b=decide (x.2=0)){T:Array Value}(Q:T.getD 2 M=h3 w.heap.size 0)(I:T.getD 3 M=h3 (w.heap.size+1) 0) :
  bodyPost Tryz.prog Tryz.f23 (fun e w'=>JtE w (cs,x) e w') Exit.ret { tmps:=T,defers:=[] } ((W.setCells w.heap.size 0 [H (runS cs).n,.slice qa (runS cs).l.length qc,H (runS cs).t.gr,H (runS cs).t.ac,H (runS cs).t.rf,H (runS cs).t.tr,H (runS cs).t.vo,H (runS cs).t.no,H (runS cs).t.li,H (runS cs).t.le,.slice ta cs.length tc,H (pkO cs),H (pkL cs)]).setCells (w.heap.size+1) 0 [.bool b,H x.1,H x.2]):=by
 obtain⟨oa,hE3,hEE⟩:=jl_end h x K;generalize (W.setCells w.heap.size 0 [H (runS cs).n,.slice qa (runS cs).l.length qc,H (runS cs).t.gr,H (runS cs).t.ac,H (runS cs).t.rf,H (runS cs).t.tr,H (runS cs).t.vo,H (runS cs).t.no,H (runS cs).t.li,H (runS cs).t.le,.slice ta cs.length tc,H (pkO cs),H (pkL cs)]).setCells (w.heap.size+1) 0 [.bool b,H x.1,H x.2]=WF at oa hE3 hEE |-;refine bodyPost_ret ?_ rfl hEE;have ah:=Q;have h3':=I;rw[Array.getD_eq_getD_getElem?] at ah h3';simp[results,Tryz.results23,go_sem,ah,h3',J oa 0 rfl,J oa 1 rfl,J oa 2 rfl,J oa 3 rfl,J oa 4 rfl,J oa 5 rfl,J oa 6 rfl,J oa 7 rfl,J oa 8 rfl,J oa 9 rfl,J oa 10 rfl,J oa 11 rfl,J oa 12 rfl,J hE3 0 rfl,J hE3 1 rfl,J hE3 2 rfl]
theorem judgeTape_any (aN:Hid CloseG)(v:Value)(l:List Int)(w:World)(hr:Rd w v l)(xW:eJ v)(K:Bts l)(hl:l.length<=65536)(hE:ErrT w) :
  Calls Tryz.prog 23 #[v] w fun e w'=>JtE w (judJ l) e w':=by
 have hmf:∀(fn:Fn) (first cap:Array Value) (w:World),(Instr.makeFunc fn first cap).run Tryz.prog w = .ok (.func fn first cap) w:=fun _ _ _ _=>rfl;have HR:=U hr;have HCP:=U xW;have HBT:=U K;have HE:=U hE;obtain⟨a,c,rfl⟩:=fi hr;have HJJ:=U (judJ.eq_1 l);have HS0:=U (gF [84,74,49] 1 (by omega) (by omega));have HHP:=U (fun vp W Z Q=>hasPrefix_any (.slice a l.length c) vp l [84,74,49] W Z xW Q K head_bts (by decide) (by omega));have HHS:=U (fun W=>headSum_any W);simp only[List.length_cons,List.length_nil] at HHP;generalize sumL [84,74,49] 1=s0 at HHS HJJ HS0;generalize judJ l=JJ at HJJ |-;have xL:Hid (yp w (((w.alloc (me #[H 0,.slice none 0 0,H 0,H 0,H 0,H 0,H 0,H 0,H 0,H 0,.slice none 0 0,H 0,H 0] 46)).alloc (me #[.bool false,H 0,H 0] 66)).alloc (me #[H 1,.slice none 0 0,H 0,H 0,H 0,H 0,H 0,H 0,H 0,H 0,.slice none 0 0,H 0,H 0] 46))):=(((Below.refl _ w).alloc yb _).alloc (by simp) _).alloc (by simp;omega) _;have jD:Hid ((((w.alloc (me #[H 0,.slice none 0 0,H 0,H 0,H 0,H 0,H 0,H 0,H 0,H 0,.slice none 0 0,H 0,H 0] 46)).alloc (me #[.bool false,H 0,H 0] 66)).alloc (me #[H 1,.slice none 0 0,H 0,H 0,H 0,H 0,H 0,H 0,H 0,H 0,.slice none 0 0,H 0,H 0] 46)).heap.size=w.heap.size+1+1+1):=by show _ = _;simp
 have HJ00:Hid (JL0 w (w.heap.size+1+1) [] (.slice none 0 0) (.slice none 0 0) (((w.alloc (me #[H 0,.slice none 0 0,H 0,H 0,H 0,H 0,H 0,H 0,H 0,H 0,.slice none 0 0,H 0,H 0] 46)).alloc (me #[.bool false,H 0,H 0] 66)).alloc (me #[H 1,.slice none 0 0,H 0,H 0,H 0,H 0,H 0,H 0,H 0,H 0,.slice none 0 0,H 0,H 0] 46))):=by
  have g1:(w.alloc (me #[H 0,.slice none 0 0,H 0,H 0,H 0,H 0,H 0,H 0,H 0,H 0,.slice none 0 0,H 0,H 0] 46)).heap.size=w.heap.size+1:=by simp
  have g2:((w.alloc (me #[H 0,.slice none 0 0,H 0,H 0,H 0,H 0,H 0,H 0,H 0,H 0,.slice none 0 0,H 0,H 0] 46)).alloc (me #[.bool false,H 0,H 0] 66)).heap.size=w.heap.size+1+1:=by simp
  have k3:Below (w.heap.size+1+1) ((w.alloc (me #[H 0,.slice none 0 0,H 0,H 0,H 0,H 0,H 0,H 0,H 0,H 0,.slice none 0 0,H 0,H 0] 46)).alloc (me #[.bool false,H 0,H 0] 66)) (((w.alloc (me #[H 0,.slice none 0 0,H 0,H 0,H 0,H 0,H 0,H 0,H 0,H 0,.slice none 0 0,H 0,H 0] 46)).alloc (me #[.bool false,H 0,H 0] 66)).alloc (me #[H 1,.slice none 0 0,H 0,H 0,H 0,H 0,H 0,H 0,H 0,H 0,.slice none 0 0,H 0,H 0] 46)):=(Below.refl _ _).alloc (by omega) _;have k2:Below (w.heap.size+1) (w.alloc (me #[H 0,.slice none 0 0,H 0,H 0,H 0,H 0,H 0,H 0,H 0,H 0,.slice none 0 0,H 0,H 0] 46)) ((w.alloc (me #[H 0,.slice none 0 0,H 0,H 0,H 0,H 0,H 0,H 0,H 0,H 0,.slice none 0 0,H 0,H 0] 46)).alloc (me #[.bool false,H 0,H 0] 66)):=(Below.refl _ _).alloc (by omega) _;have b1:=zo w [H 0,.slice none 0 0,H 0,H 0,H 0,H 0,H 0,H 0,H 0,H 0,.slice none 0 0,H 0,H 0] 46;have b2:=zo (w.alloc (me #[H 0,.slice none 0 0,H 0,H 0,H 0,H 0,H 0,H 0,H 0,H 0,.slice none 0 0,H 0,H 0] 46)) [.bool false,H 0,H 0] 66;have b3:=zo ((w.alloc (me #[H 0,.slice none 0 0,H 0,H 0,H 0,H 0,H 0,H 0,H 0,H 0,.slice none 0 0,H 0,H 0] 46)).alloc (me #[.bool false,H 0,H 0] 66)) [H 1,.slice none 0 0,H 0,H 0,H 0,H 0,H 0,H 0,H 0,H 0,.slice none 0 0,H 0,H 0] 46;rw[g1] at b2;rw[g2] at b3;have n1:=heap_alloc_new w (me #[H 0,.slice none 0 0,H 0,H 0,H 0,H 0,H 0,H 0,H 0,H 0,.slice none 0 0,H 0,H 0] 46);have n2:=heap_alloc_new (w.alloc (me #[H 0,.slice none 0 0,H 0,H 0,H 0,H 0,H 0,H 0,H 0,H 0,.slice none 0 0,H 0,H 0] 46)) (me #[.bool false,H 0,H 0] 66);have n3:=heap_alloc_new ((w.alloc (me #[H 0,.slice none 0 0,H 0,H 0,H 0,H 0,H 0,H 0,H 0,H 0,.slice none 0 0,H 0,H 0] 46)).alloc (me #[.bool false,H 0,H 0] 66)) (me #[H 1,.slice none 0 0,H 0,H 0,H 0,H 0,H 0,H 0,H 0,H 0,.slice none 0 0,H 0,H 0] 46);rw[g1] at n2;rw[g2] at n3;refine⟨⟨b3,⟨_,n3⟩,⟨rfl,.inl ⟨rfl,rfl⟩⟩,⟨rfl,.inl ⟨rfl,rfl⟩⟩,by omega⟩,zl (zl b1 k2 (by omega)) k3 (by omega),⟨_,(k3.block _ (by omega)).trans ((k2.block _ (by omega)).trans n1)⟩,zl b2 k3 (by omega),⟨_,(k3.block _ (by omega)).trans n2⟩,O xL,by omega⟩
 have hcv:(convert 22 22 (.slice (some (Y (w.heap.size+1+1+1) 0)) 3 3)).run Tryz.prog ((((w.alloc (me #[H 0,.slice none 0 0,H 0,H 0,H 0,H 0,H 0,H 0,H 0,H 0,.slice none 0 0,H 0,H 0] 46)).alloc (me #[.bool false,H 0,H 0] 66)).alloc (me #[H 1,.slice none 0 0,H 0,H 0,H 0,H 0,H 0,H 0,H 0,H 0,.slice none 0 0,H 0,H 0] 46)).alloc (.cells #[.int .u8 84,.int .u8 74,.int .u8 49] 5)) = .ok (.slice (some (Y (w.heap.size+1+1+1) 0)) 3 3) ((((w.alloc (me #[H 0,.slice none 0 0,H 0,H 0,H 0,H 0,H 0,H 0,H 0,H 0,.slice none 0 0,H 0,H 0] 46)).alloc (me #[.bool false,H 0,H 0] 66)).alloc (me #[H 1,.slice none 0 0,H 0,H 0,H 0,H 0,H 0,H 0,H 0,H 0,.slice none 0 0,H 0,H 0] 46)).alloc headO):=by
  have h:=conv_head (((w.alloc (me #[H 0,.slice none 0 0,H 0,H 0,H 0,H 0,H 0,H 0,H 0,H 0,.slice none 0 0,H 0,H 0] 46)).alloc (me #[.bool false,H 0,H 0] 66)).alloc (me #[H 1,.slice none 0 0,H 0,H 0,H 0,H 0,H 0,H 0,H 0,H 0,.slice none 0 0,H 0,H 0] 46));unfold yr at h;rwa[O jD] at h
 have hrh:Rd ((((w.alloc (me #[H 0,.slice none 0 0,H 0,H 0,H 0,H 0,H 0,H 0,H 0,H 0,.slice none 0 0,H 0,H 0] 46)).alloc (me #[.bool false,H 0,H 0] 66)).alloc (me #[H 1,.slice none 0 0,H 0,H 0,H 0,H 0,H 0,H 0,H 0,H 0,.slice none 0 0,H 0,H 0] 46)).alloc headO) (.slice (some (Y (w.heap.size+1+1+1) 0)) 3 3) [84,74,49]:=by
  have h:=rd_head (((w.alloc (me #[H 0,.slice none 0 0,H 0,H 0,H 0,H 0,H 0,H 0,H 0,H 0,.slice none 0 0,H 0,H 0] 46)).alloc (me #[.bool false,H 0,H 0] 66)).alloc (me #[H 1,.slice none 0 0,H 0,H 0,H 0,H 0,H 0,H 0,H 0,H 0,.slice none 0 0,H 0,H 0] 46));unfold yr at h;rwa[O jD] at h
 have HRH:=U hrh;have HJ0:Hid (JL0 w (w.heap.size+1+1) [] (.slice none 0 0) (.slice none 0 0) ((((w.alloc (me #[H 0,.slice none 0 0,H 0,H 0,H 0,H 0,H 0,H 0,H 0,H 0,.slice none 0 0,H 0,H 0] 46)).alloc (me #[.bool false,H 0,H 0] 66)).alloc (me #[H 1,.slice none 0 0,H 0,H 0,H 0,H 0,H 0,H 0,H 0,H 0,.slice none 0 0,H 0,H 0] 46)).alloc headO)):=gX (O HJ00) (mc _ _);clear hr xW K hE hrh xL HJ00 jD;generalize (((w.alloc (me #[H 0,.slice none 0 0,H 0,H 0,H 0,H 0,H 0,H 0,H 0,H 0,.slice none 0 0,H 0,H 0] 46)).alloc (me #[.bool false,H 0,H 0] 66)).alloc (me #[H 1,.slice none 0 0,H 0,H 0,H 0,H 0,H 0,H 0,H 0,H 0,.slice none 0 0,H 0,H 0] 46)).alloc headO=xh at hcv HRH HJ0;go_enter Tryz.func23,Tryz.ntmps23;go_wp2_with fail;refine(O HHP _ xh (fx (O HR) (O HJ0).bel yb) (O HRH)).mono ?_;rintro e w1 ⟨rfl,rfl⟩;clear hcv HRH HHP
 by_cases hpre:l.take 3 = [84,74,49]
 ·rw[if_pos hpre] at HJJ;have e1:decide (l.take (0+1+1+1) = [84,74,49])=true:=by simpa using hpre
  rw[e1];have h3l:3<=l.length:=by have:=congrArg List.length hpre;rw[List.length_take] at this;simp only[List.length_cons,List.length_nil] at this;omega
  clear hpre e1;go_wp2_with fail;refine(O HHS w1).mono ?_;rintro e w2 ⟨rfl,xy⟩;have kC:=mc w2 (me #[H s0] 3)
  have HJL:Hid (JL w (w.heap.size+1+1) w2.heap.size s0 [] (.slice none 0 0) (.slice none 0 0) (w2.alloc (me #[H s0] 3))):=
   ⟨gX (O HJ0) (mf xy kC),zo w2 [H s0] 3,⟨_,heap_alloc_new _ _⟩,yK (O HJ0).jg.lt xy.size,by simp⟩
  have HK0:Hid (JJ=jdK l 3 s0 []):=O HJJ;clear xy kC HJ0 HHS HJJ;go_wp2_with fail;generalize (w2.alloc (me #[H s0] 3))=X2 at HJL |-;generalize w2.heap.size=S at HJL |-;go_loopw [5] (fun av wr=>∃(k:Nat) (s:Int) (cs:List Cm) (vq vt:Value),av=H k/\k<=l.length/\0<=s/\s<65521/\cs.length<=200/\JL w (w.heap.size+1+1) S s cs vq vt wr/\JJ=jdK l k s cs) (fun av _=>l.length-(intOf av).toNat)
  case atStart=>exact⟨3,s0,[],_,_,rfl,h3l,(O HS0).1,(O HS0).2,by simp,O HJL,O HK0⟩
  case round =>
   obtain⟨k,s,cs,vq,vt,rfl,E,jo,xG,oZ,hjl,hjj⟩:=hrel;obtain⟨qa,qc,rfl⟩:=gy hjl.j0.jg.row;obtain⟨ta,tc,rfl⟩:=gy hjl.j0.jg.told;have HJW:=U hjl;have HKJ:=U hjj;clear hjl hjj HJL HK0;go_wp2_with fail;refine(readG_any (.slice a l.length c) l k S s wr (fx (O HR) (O HJW).j0.bel yb) (O HCP) (O HBT) hl E (gx (O HE) (O HJW).j0.bel yb) jo xG (J (O HJW).sb 0 rfl)).mono ?_;rintro e w3 ⟨xV,bd,qZ⟩;cases je:frA l k s with
   | none =>
    rw[je] at qZ;obtain rfl:=qZ rfl;have HF:Hid (JJ=(cs,k,1)):=(O HKJ).trans (jdK_none je);have xD:Hid (JL0 w (w.heap.size+1+1) cs (.slice qa (runS cs).l.length qc) (.slice ta cs.length tc) (w3.alloc (me #[.int .u8 0,.slice none 0 0,H 0,H 0] 95))):=gX (O HJW).j0 (xV.trans ((mc _ _).mono xV.size));unfold zFr;clear bd qZ je xV HJW HKJ;obtain ⟨y0,y1,y2,y3,y4,y5,y6,y7,y8,y9,cE,y11,y12⟩:=q0_13 (O xD).jg.box rfl;obtain ⟨z0,z1,z2,z3,z4,z5,z6,z7,z8,z9,kI,ox,oO⟩:=q0_13 (O xD).b2 rfl;obtain ⟨fz0,fz1,fz2,fz3,fz4,fz5,fz6,fz7,fz8,fz9,fz10,fz11,fz12⟩:=r0_13 (O xD).b2 rfl;have u0:=J (O xD).b3 0 rfl;have u1:=J (O xD).b3 1 rfl;have u2:=J (O xD).b3 2 rfl;obtain ⟨fu0,fu1,fu2⟩:=r0_3 (O xD).b3 rfl;go_wp2_with fail;rw[set13,set3,O HF];exact jt_ret (O xD) (k,1) (b:=false) rfl rfl rfl
   | some x =>
    obtain⟨m,n,t,s2⟩:=x;rw[je] at bd;obtain⟨pa,pl,pc,rfl,hrp,hcp⟩:=bd m n t s2 rfl;obtain⟨hn1,hn2,hn3,hn4,hm,oM⟩:=frA_some je;obtain⟨kC,xH⟩:=mh w3 [.int .u8 m,.slice pa pl pc,H n,H s2] 95;have xF:=xV.trans (kC.mono xV.size);have pp:=U (jl_below (O HJW) xF);have HT4:Hid (∃xt,(w3.alloc (me #[.int .u8 m,.slice pa pl pc,H n,H s2] 95)).heap[w3.heap.size]? = some (.cells xt 95 (0,0))):=⟨_,heap_alloc_new _ _⟩;have HRP:=U (fx hrp xF yb);have HCQ:=U hcp;have aU:S<w3.heap.size:=yK (O HJW).hl xV.size;have hF4:w3.heap.size<(w3.alloc (me #[.int .u8 m,.slice pa pl pc,H n,H s2] 95)).heap.size:=by simp
    have hJS:=(O HJW).hS;have xZ:Hid (0<=s2/\s2<65521):=by rw[oM];exact gF _ _ jo xG
    have bp:=U je;clear bd qZ xV kC xF hrp hcp HJW je oM;rcases hm with rfl|rfl
    ·have x0:=J (O xH) 0 rfl;have x1:=J (O xH) 1 rfl;have vu:=U (run_gr cs oZ)
     by_cases kZ:cs.length=200
     ·have HF:Hid (JJ=(cs,k,18)):=(O HKJ).trans (jdK_many (O bp) kZ);have xD:=U (O pp).j0;have vn:((runS cs).t.gr==200)=true:=by rw[O vu,kZ];rfl
      clear kZ vu HKJ pp xH HT4 HRP;obtain ⟨y0,y1,y2,y3,y4,y5,y6,y7,y8,y9,cE,y11,y12⟩:=q0_13 (O xD).jg.box rfl;obtain ⟨z0,z1,z2,z3,z4,z5,z6,z7,z8,z9,kI,ox,oO⟩:=q0_13 (O xD).b2 rfl;obtain ⟨fz0,fz1,fz2,fz3,fz4,fz5,fz6,fz7,fz8,fz9,fz10,fz11,fz12⟩:=r0_13 (O xD).b2 rfl;have u0:=J (O xD).b3 0 rfl;have u1:=J (O xD).b3 1 rfl;have u2:=J (O xD).b3 2 rfl;obtain ⟨fu0,fu1,fu2⟩:=r0_3 (O xD).b3 rfl;go_wp2_with fail;rw[set13,set3,O HF];exact jt_ret (O xD) (k,18) (b:=false) rfl rfl rfl
     ·have vn:((runS cs).t.gr==200)=false:=by rw[O vu];simp;omega
      have y2:=J (O pp).j0.jg.box 2 rfl;have HAG:=U (addGroup_any aN (.slice pa pl pc) _ _ (O pp).j0.jg (by omega) (O HRP) (O HCQ) (fun x hx=>O HBT x (List.mem_of_mem_drop (List.mem_of_mem_take hx))) (by rw[List.length_take];omega) (gx (O HE) (O pp).j0.bel yb));have kQ:=U (fun q r F=>(O HKJ).trans (jdK_bad (q:=q) (r:=r) (O bp) kZ F));have uf:=U (fun c F=>(O HKJ).trans (jdK_go (c:=c) (O bp) kZ F));have uL:=U (fun q r F=>grpJ_rule (p:=(l.drop n).take (t-n)) (cs:=cs) (q:=q) (r:=r) F);generalize grpJ ((l.drop n).take (t-n)) cs=GJ_ at HAG kQ uf uL;clear vu HKJ HRP;go_wp2_with fail;generalize (w3.alloc (me #[.int .u8 71,.slice pa pl pc,H n,H s2] 95))=V at pp xH HT4 hF4 HAG x0 x1 y2 |-;generalize w3.heap.size=hg at xH HT4 aU hF4 x0 x1 |-;refine(O HAG).mono ?_;rintro e w5 ⟨qM,au⟩;clear x0 x1 y2 HAG;cases GJ_ with
      | inl y =>
       obtain⟨q,r⟩:=y;obtain⟨rfl,uj⟩:=qM q r rfl;have HF:Hid (JJ=(cs,n+q,r)):=O kQ q r rfl;have jM:(r != 0)=true:=by simpa using(O uL q r rfl).1
       have xY:decide (r=0)=false:=by simpa using(O uL q r rfl).1
       have hql:=(O uL q r rfl).2;have xD:=U (jl_below (O pp) uj).j0;have qz:=U (zl (O xH) uj hF4);clear qM au uj kQ uf uL pp xH HT4;obtain ⟨y0,y1,y2,y3,y4,y5,y6,y7,y8,y9,cE,y11,y12⟩:=q0_13 (O xD).jg.box rfl;obtain ⟨z0,z1,z2,z3,z4,z5,z6,z7,z8,z9,kI,ox,oO⟩:=q0_13 (O xD).b2 rfl;obtain ⟨fz0,fz1,fz2,fz3,fz4,fz5,fz6,fz7,fz8,fz9,fz10,fz11,fz12⟩:=r0_13 (O xD).b2 rfl;have u0:=J (O xD).b3 0 rfl;have u1:=J (O xD).b3 1 rfl;have u2:=J (O xD).b3 2 rfl;obtain ⟨fu0,fu1,fu2⟩:=r0_3 (O xD).b3 rfl;have x2:=J (O qz) 2 rfl
       have hw:IntKind.i64.wrap ((n:Int)+q)=n+q:=by
        have h5:=hql;rw[List.length_take] at h5;rw[IntKind.wrap_i64];omega
       have HJF:Hid (JL0 w (w.heap.size+1+1) cs (.slice qa (runS cs).l.length qc) (.slice ta cs.length tc) w5.drew):=gX (O xD) (Below.refl _ _).drew;have HRD2:Hid ((false:Bool)=decide (r=0)):=xY.symm;have hFa:¬ (w.heap.size=hg):=by omega
       have hFb:¬ (hg=w.heap.size):=by omega
       clear xY qz xD hql;go_wp2_with fail
       go_region_with (fail)
       all_goals try go_wp2_with fail
       all_goals
        rw[set13,set3,O HF,drew_sets,drew_sets];exact jt_ret (O HJF) (n+q,r) (b:=false) (O HRD2) rfl rfl
      | inr c =>
       obtain⟨rfl,uB,ow,hj5,hk5⟩:=au c rfl;have HK6:Hid (JJ=jdK l (t+2) s2 (cs ++ [c])):=O uf c rfl;have jU:=U (jl_kp (O pp) hk5 hj5);have qz:Hid (Bx w5 hg [.int .u8 71,.slice pa pl pc,H n,H s2]):=dm (O xH) (hk5.block hg hF4 (by omega) (zF (O pp).j0.jg.told (O HT4) (by decide)));clear qM au hj5 hk5 kQ uf uL pp xH HT4;have x3:=J (O qz) 3 rfl;have v0:=J (O jU).sb 0 rfl;have fv0:=zg (O jU).sb 0 (by show 0<1;decide);have HJF:Hid (JL w (w.heap.size+1+1) S s2 (cs ++ [c]) uB ow (w5.drew.setCell (Y S 0) (H s2))):=jl_sum (jl_below (O jU) (Below.refl _ _).drew) s2;clear qz jU;go_wp2_with fail
       go_region_with (fail)
       all_goals try go_wp2_with fail
       all_goals
        go_roundw
        case rel=>exact⟨t+2,s2,cs ++ [c],uB,ow,by go_num,by omega,(O xZ).1,(O xZ).2,by simp;omega,O HJF,O HK6⟩
        case measure=>simp[intOf];omega
    ·have qp:=U (fun W (hW:Below (w3.alloc (me #[.int .u8 69,.slice pa pl pc,H n,H s2] 95)).heap.size (w3.alloc (me #[.int .u8 69,.slice pa pl pc,H n,H s2] 95)) W)=>endVerdict_any l 69 pa pl pc n t s2 W (gX (O pp).j0 hW).jg oZ (fx (O HRP) hW yb) (O HBT) hl hn3);have HF:Hid (JJ=(cs,endJ l n t cs)):=(O HKJ).trans (jdK_end (O bp));generalize endJ l n t cs=EJ at qp HF;have x0:=J (O xH) 0 rfl;clear HKJ HRP HCQ bp xZ HT4;go_wp2_with fail;generalize (w3.alloc (me #[.int .u8 69,.slice pa pl pc,H n,H s2] 95))=V at pp xH hF4 qp x0 |-;generalize w3.heap.size=hg at xH aU hF4 x0 |-;have x1:=J (O xH) 1 rfl;have x2:=J (O xH) 2 rfl;have x3:=J (O xH) 3 rfl;have xD:=U (O pp).j0;have hD:Hid (yp V V.drew):=(Below.refl _ _).drew;have jU:Hid (∀W,yp V W->JL0 w (w.heap.size+1+1) cs (.slice qa (runS cs).l.length qc) (.slice ta cs.length tc) W):=fun W hW=>gX (O xD) hW;obtain ⟨y0,y1,y2,y3,y4,y5,y6,y7,y8,y9,cE,y11,y12⟩:=q0_13 (O xD).jg.box rfl;clear pp xH xD;unfold vdV at qp
     go_region_with (go_at_call 48;refine(O qp _ (O hD)).mono ?_;rintro e w6 ⟨rfl,vU⟩;have vW:=O jU w6 ((O hD).trans vU);obtain ⟨g0,g1,g2,g3,g4,g5,g6,g7,g8,g9,kN,jR,ql⟩:=q0_13 vW.jg.box rfl;obtain ⟨z0,z1,z2,z3,z4,z5,z6,z7,z8,z9,kI,ox,oO⟩:=q0_13 vW.b2 rfl;obtain ⟨fz0,fz1,fz2,fz3,fz4,fz5,fz6,fz7,fz8,fz9,fz10,fz11,fz12⟩:=r0_13 vW.b2 rfl;have u0:=J vW.b3 0 rfl;have u1:=J vW.b3 1 rfl;have u2:=J vW.b3 2 rfl;obtain ⟨fu0,fu1,fu2⟩:=r0_3 vW.b3 rfl;have HJ6:=U vW;clear vW vU)
     all_goals try go_wp2_with fail
     all_goals
      rw[set13,set3,O HF];exact jt_ret (O HJ6) EJ rfl rfl rfl
 ·have HF:Hid (JJ=([],0,1)):=by show _ = _;rw[O HJJ,if_neg hpre]
  have e1:decide (l.take (0+1+1+1) = [84,74,49])=false:=by simpa using hpre
  rw[e1];clear hpre e1 HJJ;have xD:Hid (JL0 w (w.heap.size+1+1) [] (.slice none (runS []).l.length 0) (.slice none ([]:List Cm).length 0) w1):=O HJ0;clear HJ0;obtain ⟨y0,y1,y2,y3,y4,y5,y6,y7,y8,y9,cE,y11,y12⟩:=q0_13 (O xD).jg.box rfl;obtain ⟨z0,z1,z2,z3,z4,z5,z6,z7,z8,z9,kI,ox,oO⟩:=q0_13 (O xD).b2 rfl;obtain ⟨fz0,fz1,fz2,fz3,fz4,fz5,fz6,fz7,fz8,fz9,fz10,fz11,fz12⟩:=r0_13 (O xD).b2 rfl;have u0:=J (O xD).b3 0 rfl;have u1:=J (O xD).b3 1 rfl;have u2:=J (O xD).b3 2 rfl;obtain ⟨fu0,fu1,fu2⟩:=r0_3 (O xD).b3 rfl;go_wp2_with fail;rw[set13,set3,O HF];exact jt_ret (O xD) (0,1) (b:=false) (by decide) rfl rfl
end Go.Proofs.YtkofhemdefffpaaGreatDoor
