/-
  Events and groups that are the same but for the bits of prices that are no number, held against each other by the laws: proved by walking their helpers.
-/
import Derived.Test.YtbakanofkghmiaaGreatWj28
import Derived.Test.YtbakanofkghmiaaGreatWj33
set_option linter.unusedVariables false
set_option maxHeartbeats 6400000
set_option maxRecDepth 100000
namespace Go.Proofs.YtbakanofkghmiaaGreat
open Go.RowKit
theorem evEq_one {e f:Ev} (h:EvEq e f):∃ p',PEq e.cmd.p p'∧f = { e with cmd:={ e.cmd with p:=p' } }:=by
 obtain ⟨a,⟨k,s,t,l,q,i,p,g⟩,b,c,d,x,y⟩:=e
 obtain ⟨a',⟨k',s',t',l',q',i',p',g'⟩,b',c',d',x',y'⟩:=f
 obtain ⟨rfl,⟨rfl,rfl,rfl,rfl,rfl,rfl,hp,rfl⟩,rfl,rfl,rfl,rfl,rfl⟩:=h
 exact ⟨p',hp,rfl⟩
theorem same_pq {a b:Nat} (h:PEq a b) (w:World):Calls Tryz.prog 97 #[.float .f64 a,.float .f64 b] w fun e w'=>e = .returned (.bool true)∧w' = w:=by
 rcases h with rfl | ⟨G,E⟩
 ·exact sameFloat_any _ w
 ·exact sameFloat_nan _ _ w G E
set_option maxHeartbeats 400000 in
theorem smCmd_eq (c:Cm) (p':Nat) (hp:PEq c.p p') (w:World) :
  Calls Tryz.prog 79 #[.agg #[.int .i64 c.k,.int .i64 c.s,.int .i64 c.t,.int .i64 c.l,.int .i64 c.q,.int .i64 c.i,.float .f64 c.p,.string c.g],.agg #[.int .i64 c.k,.int .i64 c.s,.int .i64 c.t,.int .i64 c.l,.int .i64 c.q,.int .i64 c.i,.float .f64 p',.string c.g]] w fun e w' =>
   e = .returned (.bool true)∧Below w.heap.size w w':=by
 obtain ⟨k,s,t,l,q,i,p,g⟩:=c
 have HF:=hide (fun W=>same_pq hp W)
 simp only at *
 clear hp
 go_enter Tryz.func79,Tryz.ntmps79
 go_wp2_with (go_at_call 97; refine (U HF _).mono ?_; rintro e w' ⟨rfl,rfl⟩)
 go_returns
 refine ⟨rfl,?_⟩
 go_grown
set_option maxRecDepth 100000 in
set_option maxHeartbeats 1600000 in
theorem smEvent_eq (e:Ev) (p':Nat) (hp:PEq e.cmd.p p') (w:World) :
  Calls Tryz.prog 42 #[evV e,evV { e with cmd:={ e.cmd with p:=p' } }] w fun x w'=>x = .returned (.bool true)∧Below w.heap.size w w':=by
 obtain ⟨uv,⟨k,s,t,l,q,i,p,g⟩,id,xL,qty,xO,xI⟩:=e
 unfold evV
 have HE:=hide (fun W=>smCmd_eq ⟨k,s,t,l,q,i,p,g⟩ p' hp W)
 clear hp
 simp only at *
 have xA:(w.alloc (Obj.cells #[.int .i64 uv,.int .i64 k,.int .i64 s,.int .i64 t,.int .i64 l,.int .i64 q,.int .i64 i,.float .f64 p,.string g,.int .i64 id,.int .i64 xL,.int .i64 qty,.int .i64 xO,.int .i64 xI] 46)).heap.size = w.heap.size + 1:=dR _ _
 have ua:((w.alloc (Obj.cells #[.int .i64 uv,.int .i64 k,.int .i64 s,.int .i64 t,.int .i64 l,.int .i64 q,.int .i64 i,.float .f64 p,.string g,.int .i64 id,.int .i64 xL,.int .i64 qty,.int .i64 xO,.int .i64 xI] 46)).alloc (Obj.cells #[.int .i64 uv,.int .i64 k,.int .i64 s,.int .i64 t,.int .i64 l,.int .i64 q,.int .i64 i,.float .f64 p',.string g,.int .i64 id,.int .i64 xL,.int .i64 qty,.int .i64 xO,.int .i64 xI] 46)).heap.size = w.heap.size + 1 + 1:=by rw [dR,xA]
 have b1:Below (w.heap.size + 1) (w.alloc (Obj.cells #[.int .i64 uv,.int .i64 k,.int .i64 s,.int .i64 t,.int .i64 l,.int .i64 q,.int .i64 i,.float .f64 p,.string g,.int .i64 id,.int .i64 xL,.int .i64 qty,.int .i64 xO,.int .i64 xI] 46)) ((w.alloc (Obj.cells #[.int .i64 uv,.int .i64 k,.int .i64 s,.int .i64 t,.int .i64 l,.int .i64 q,.int .i64 i,.float .f64 p,.string g,.int .i64 id,.int .i64 xL,.int .i64 qty,.int .i64 xO,.int .i64 xI] 46)).alloc (Obj.cells #[.int .i64 uv,.int .i64 k,.int .i64 s,.int .i64 t,.int .i64 l,.int .i64 q,.int .i64 i,.float .f64 p',.string g,.int .i64 id,.int .i64 xL,.int .i64 qty,.int .i64 xO,.int .i64 xI] 46)):=(Below.refl _ _).alloc (by rw [xA]; omega) _
 have r1:=zb (dX w [.int .i64 uv,.int .i64 k,.int .i64 s,.int .i64 t,.int .i64 l,.int .i64 q,.int .i64 i,.float .f64 p,.string g,.int .i64 id,.int .i64 xL,.int .i64 qty,.int .i64 xO,.int .i64 xI] 46) b1 (by omega)
 have r2:=dX (w.alloc (Obj.cells #[.int .i64 uv,.int .i64 k,.int .i64 s,.int .i64 t,.int .i64 l,.int .i64 q,.int .i64 i,.float .f64 p,.string g,.int .i64 id,.int .i64 xL,.int .i64 qty,.int .i64 xO,.int .i64 xI] 46)) [.int .i64 uv,.int .i64 k,.int .i64 s,.int .i64 t,.int .i64 l,.int .i64 q,.int .i64 i,.float .f64 p',.string g,.int .i64 id,.int .i64 xL,.int .i64 qty,.int .i64 xO,.int .i64 xI] 46
 rw [xA] at r2
 have HB:Hid (Below w.heap.size w ((w.alloc (Obj.cells #[.int .i64 uv,.int .i64 k,.int .i64 s,.int .i64 t,.int .i64 l,.int .i64 q,.int .i64 i,.float .f64 p,.string g,.int .i64 id,.int .i64 xL,.int .i64 qty,.int .i64 xO,.int .i64 xI] 46)).alloc (Obj.cells #[.int .i64 uv,.int .i64 k,.int .i64 s,.int .i64 t,.int .i64 l,.int .i64 q,.int .i64 i,.float .f64 p',.string g,.int .i64 id,.int .i64 xL,.int .i64 qty,.int .i64 xO,.int .i64 xI] 46))):=((Below.refl _ _).alloc (Nat.le_refl _) _).alloc (by rw [xA]; omega) _
 have HX:Hid (_∧_∧_):=⟨r1,r2,ua⟩
 clear r1 r2 b1 xA ua
 go_enter Tryz.func42,Tryz.ntmps42
 go_wp2_with fail
 generalize ((w.alloc (Obj.cells #[.int .i64 uv,.int .i64 k,.int .i64 s,.int .i64 t,.int .i64 l,.int .i64 q,.int .i64 i,.float .f64 p,.string g,.int .i64 id,.int .i64 xL,.int .i64 qty,.int .i64 xO,.int .i64 xI] 46)).alloc (Obj.cells #[.int .i64 uv,.int .i64 k,.int .i64 s,.int .i64 t,.int .i64 l,.int .i64 q,.int .i64 i,.float .f64 p',.string g,.int .i64 id,.int .i64 xL,.int .i64 qty,.int .i64 xO,.int .i64 xI] 46)) = W at HX HB ⊢
 obtain ⟨jD,hr2,hsW⟩:=U HX
 refine (U HE _).mono ?_
 rintro e w2 ⟨rfl,xY⟩
 have xD:=hide ((U HB).trans (xY.mono (U HB).size))
 have q1:=zb jD xY (by omega)
 have q2:=zb hr2 xY (by omega)
 have x9:=q1 9 _ rfl
 have x10:=q1 10 _ rfl
 have x11:=q1 11 _ rfl
 have x12:=q1 12 _ rfl
 have x13:=q1 13 _ rfl
 have y9:=q2 9 _ rfl
 have y10:=q2 10 _ rfl
 have y11:=q2 11 _ rfl
 have y12:=q2 12 _ rfl
 have y13:=q2 13 _ rfl
 clear jD hr2 q1 q2 xY HX HB hsW
 go_wp2_with fail
 go_returns
 exact ⟨rfl,U xD⟩
set_option maxRecDepth 100000 in
set_option maxHeartbeats 1600000 in
theorem smEvents_eq (va vb:Value) (l l2:List Ev) (hq:EsEq l l2) (w:World) (ha:RdR Ev.vs 14 w va l) (F:RdR Ev.vs 14 w vb l2) :
  Calls Tryz.prog 16 #[va,vb] w fun e w'=>e = .returned (.bool true)∧Below w.heap.size w w':=by
 obtain ⟨aa,ca,rfl,hl,hca⟩:=ha
 obtain ⟨ab,cb,rfl,_,hcb⟩:=F
 have xq:∀ (k:Nat) (c:Ev),l[k]? = some c→∃ b off b' uz p',PEq c.cmd.p p'∧aa = some ⟨b,off,none⟩∧ab = some ⟨b',uz,none⟩∧b < w.heap.size∧b' < w.heap.size∧w.rangeAt b (off + k * 14) c.vs∧w.rangeAt b' (uz + k * 14) (Ev.vs { c with cmd:={ c.cmd with p:=p' } }):=by
  intro k c hk
  obtain ⟨d,hd,he⟩:=esEq_at hq k c hk
  obtain ⟨p',hp,rfl⟩:=evEq_one he
  have hne2:l2 ≠ []:=by intro h; rw [h] at hd; simp at hd
  have xB:l ≠ []:=by intro h; rw [h] at hk; simp at hk
  obtain ⟨b,off,G,E,h3⟩:=hca xB
  obtain ⟨b',uz,kS,ki,h3'⟩:=hcb hne2
  exact ⟨b,off,b',uz,p',hp,G,kS,E,ki,h3 k c hk,h3' k _ hd⟩
 have HC:=hide xq
 have hll:=esEq_len hq
 rw [← hll]
 clear xq hca hcb hq hll
 go_enter Tryz.func16,Tryz.ntmps16
 go_wp2_with fail
 go_loopw [5] (fun i wr=>∃ k:Nat,k ≤ l.length∧i = .int .i64 k∧Below w.heap.size w wr) (fun i _=>l.length - (intOf i).toNat)
 case atStart=>exact ⟨0,Nat.zero_le _,rfl,Below.refl _ _⟩
 case round =>
  obtain ⟨k,hk,rfl,xk⟩:=hrel
  have HB:=hide xk
  clear xk
  by_cases xJ:k < l.length
  ·obtain ⟨c,uV⟩:∃ c,l[k]? = some c:=⟨_,yH xJ⟩
   obtain ⟨b,off,b',uz,p',hp,rfl,rfl,F,jK,xo,vM⟩:=U HC k c uV
   have HP:=hide hp
   obtain ⟨g0,g1,g2,g3,g4,g5,g6,g7,g8,g9,qR,vF,xZ,kR⟩:=bD (zb xo (U HB) F)
   obtain ⟨e0,e1,e2,e3,e4,e5,e6,e7,e8,e9,oE,e11,e12,e13⟩:=bD (zb vM (U HB) jK)
   have un:(k:Int) < l.length:=by omega
   clear uV xo vM F jK hp
   go_wp2_with fail
   go_region_with (go_at_call 42; refine (smEvent_eq c p' (U HP) _).mono ?_; rintro e w2 ⟨rfl,xY⟩; have xD:=hide ((U HB).drew.trans (xY.mono (U HB).drew.size)); clear xY)
   go_wp2_with fail
   go_roundw
   case rel=>exact ⟨k + 1,by omega,by go_num,U xD⟩
   case measure=>simp [intOf]; omega
   all_goals exact ⟨⟨k + 1,by omega,by go_num,U xD⟩,by simp [intOf]; omega⟩
  ·go_wp2_with fail
   go_ret
   exact ⟨rfl,U HB⟩
set_option maxRecDepth 100000 in
set_option maxHeartbeats 800000 in
theorem smGs_eq (va vb:Value) (gl g2:List (List Ev)) (hq:GsEq gl g2) (w:World) (ha:RdG w va gl) (F:RdG w vb g2) :
  Calls Tryz.prog 12 #[va,vb] w fun e w'=>e = .returned (.bool true)∧Below w.heap.size w w':=by
 obtain ⟨aa,ca,rfl,hl,hca⟩:=ha
 obtain ⟨ab,cb,rfl,_,hcb⟩:=F
 have xq:∀ (k:Nat) (es:List Ev),gl[k]? = some es→∃ b off b' uz ga gc ga' gc' es',EsEq es es'∧aa = some ⟨b,off,none⟩∧ab = some ⟨b',uz,none⟩∧b < w.heap.size∧b' < w.heap.size∧w.cell? ⟨b,off + k,none⟩ = some (.slice ga es.length gc)∧w.cell? ⟨b',uz + k,none⟩ = some (.slice ga' es'.length gc')∧RdR Ev.vs 14 w (.slice ga es.length gc) es∧RdR Ev.vs 14 w (.slice ga' es'.length gc') es':=by
  intro k es hk
  obtain ⟨es',hd,he⟩:=gsEq_at hq k es hk
  have hne2:g2 ≠ []:=by intro h; rw [h] at hd; simp at hd
  have xB:gl ≠ []:=by intro h; rw [h] at hk; simp at hk
  obtain ⟨b,off,G,E,h3⟩:=hca xB
  obtain ⟨b',uz,kS,ki,h3'⟩:=hcb hne2
  obtain ⟨g,h4,h5⟩:=h3 k es hk
  obtain ⟨g',h4',h5'⟩:=h3' k es' hd
  obtain ⟨ga,gc,rfl,_⟩:=id h5
  obtain ⟨ga',gc',rfl,_⟩:=id h5'
  exact ⟨b,off,b',uz,ga,gc,ga',gc',es',he,G,kS,E,ki,h4,h4',h5,h5'⟩
 have HC:=hide xq
 have hll:=gsEq_len hq
 rw [← hll]
 clear xq hca hcb hq hll
 go_enter Tryz.func12,Tryz.ntmps12
 go_wp2_with fail
 go_loopw [5] (fun i wr=>∃ k:Nat,k ≤ gl.length∧i = .int .i64 k∧Below w.heap.size w wr) (fun i _=>gl.length - (intOf i).toNat)
 case atStart=>exact ⟨0,Nat.zero_le _,rfl,Below.refl _ _⟩
 case round =>
  obtain ⟨k,hk,rfl,xk⟩:=hrel
  have HB:=hide xk
  clear xk
  by_cases xJ:k < gl.length
  ·obtain ⟨es,uV⟩:∃ es,gl[k]? = some es:=⟨_,yH xJ⟩
   obtain ⟨b,off,b',uz,ga,gc,ga',gc',es',hee,rfl,rfl,F,jK,xo,vM,hr,hr'⟩:=U HC k es uV
   have g0:=((U HB).cell (p:=⟨b,off + k,none⟩) F).trans xo
   have g1:=((U HB).cell (p:=⟨b',uz + k,none⟩) jK).trans vM
   have jx:=hide hee
   have HRA:=hide (zn hr (U HB).drew (Nat.le_refl _))
   have HRB:=hide (zn hr' (U HB).drew (Nat.le_refl _))
   have un:(k:Int) < gl.length:=by omega
   clear uV xo vM F jK hr hr' hee
   go_wp2_with fail
   go_region_with (go_at_call 16; refine (smEvents_eq _ _ es es' (U jx) _ (U HRA) (U HRB)).mono ?_; rintro e w2 ⟨rfl,xY⟩; have xD:=hide ((U HB).drew.trans (xY.mono (U HB).drew.size)); clear xY)
   go_wp2_with fail
   go_roundw
   case rel=>exact ⟨k + 1,by omega,by go_num,U xD⟩
   case measure=>simp [intOf]; omega
   all_goals exact ⟨⟨k + 1,by omega,by go_num,U xD⟩,by simp [intOf]; omega⟩
  ·go_wp2_with fail
   go_ret
   exact ⟨rfl,U HB⟩
theorem smBook_same (n:Int) (va vb:Value) (l:List Od) (w:World) (ha:RdR Od.vs 6 w va l) (F:RdR Od.vs 6 w vb l) :
  Calls Tryz.prog 13 #[.agg #[H n,va],.agg #[H n,vb]] w fun e w'=>e = ym (.bool true)∧yn w w':=by
 obtain ⟨aa,ca,rfl,hl,hca⟩:=ha
 obtain ⟨ab,cb,rfl,_,hcb⟩:=F
 have xq:∀ (k:Nat) (c:Od),l[k]? = some c→∃ b off b' uz,aa = some (J b off)∧ab = some (J b' uz)∧b < w.heap.size∧b' < w.heap.size∧w.rangeAt b (off + k * 6) c.vs∧w.rangeAt b' (uz + k * 6) c.vs:=by
  intro k c hk
  have xB:l ≠ []:=by intro h; rw [h] at hk; simp at hk
  obtain ⟨b,off,G,E,h3⟩:=hca xB
  obtain ⟨b',uz,kS,ki,h3'⟩:=hcb xB
  exact ⟨b,off,b',uz,G,kS,E,ki,h3 k c hk,h3' k c hk⟩
 have HC:=Y xq
 clear xq hca hcb
 have G:=eD w (eF #[H n,.slice aa l.length ca] 28)
 have x1:=aY w [H n,.slice aa l.length ca] 28
 have s1:=zh w (eF #[H n,.slice aa l.length ca] 28)
 have E:Below (w.alloc (eF #[H n,.slice aa l.length ca] 28)).heap.size (w.alloc (eF #[H n,.slice aa l.length ca] 28)) ((w.alloc (eF #[H n,.slice aa l.length ca] 28)).alloc (eF #[H n,.slice ab l.length cb] 28)):=eD _ _
 have x2:=aY (w.alloc (eF #[H n,.slice aa l.length ca] 28)) [H n,.slice ab l.length cb] 28
 have s2:=zh (w.alloc (eF #[H n,.slice aa l.length ca] 28)) (eF #[H n,.slice ab l.length cb] 28)
 have x1':=bM x1 E (by rw [s1]; omega)
 have xD:=Y (D G E)
 rw [s1] at x2 s2
 have HX:Hid (_∧_∧_):=⟨x1',x2,s2⟩
 clear G x1 s1 E x2 s2 x1'
 go_enter Tryz.func13,Tryz.ntmps13
 go_wp2_with fail
 generalize ((w.alloc (eF #[H n,.slice aa l.length ca] 28)).alloc (eF #[H n,.slice ab l.length cb] 28)) = W2 at xD HX ⊢
 go_loopw [5] (fun i wr=>∃ k:Nat,k ≤ l.length∧i = H k∧yn W2 wr) (fun i _=>l.length - (intOf i).toNat)
 case atStart=>exact ⟨0,Nat.zero_le _,rfl,Below.refl _ _⟩
 case round =>
  obtain ⟨k,hk,rfl,xk⟩:=hrel
  have HB:=Y xk
  obtain ⟨r1,r2,ua⟩:=U HX
  have d1:=zJ (bM r1 xk (by omega)) 1 rfl
  have d2:=zJ (bM r2 xk (by omega)) 1 rfl
  clear r1 r2 xk
  by_cases xJ:k < l.length
  ·obtain ⟨c,uV⟩:∃ c,l[k]? = some c:=⟨_,yH xJ⟩
   obtain ⟨b,off,b',uz,rfl,rfl,F,jK,xo,vM⟩:=U HC k c uV
   obtain ⟨p0,p1,p2,p3,p4,p5⟩:=zz (zb (zb xo (U xD) F) (U HB) (yJ F (U xD).size))
   obtain ⟨q0,q1,q2,q3,q4,q5⟩:=zz (zb (zb vM (U xD) jK) (U HB) (yJ jK (U xD).size))
   have un:(k:Int) < l.length:=by omega
   clear uV xo vM F jK
   go_wp2_with fail
   go_quiet (fail)
   go_wp2_with fail
   go_roundw
   case rel=>exact ⟨k + 1,by omega,by go_num,cQ (U HB) nq⟩
   case measure=>simp [intOf]; omega
  ·go_wp2_with fail
   go_ret
   exact ⟨rfl,(U xD).trans ((U HB).mono (U xD).size)⟩
section
variable {C:Nat→Value→Prop} {mb:Nat} {tv:List Value} {base W W':World} {x:List Bool} {f:Nat→Value}
end
theorem below_keptR {mb B:Nat} {w yb W:World} (G:yn w yb) (E:KeptBut mb B yb W) (hB:w.heap.size ≤ B) (hm:w.heap.size ≤ mb):yn w W :=
 ⟨E.os.trans G.os,E.tape.trans G.tape,E.output.trans G.output,yN G.size E.size,fun k hk=>(E.block k (by omega) (by omega)).trans (G.block k hk)⟩
theorem row_end {e sz n mb R B C:Nat} {v:Value} {xs:List Value} {W V2:World} (h:W.ownsRow B e sz v n xs) (hm:some mb ≠ v.ownBlock) (F:yn W V2) (X:R < B) (hC:C ≤ B) (us vs:List Value) (o1 o2:Nat):((V2.setCells mb o1 us).setCells R o2 vs).ownsRow C e sz v n xs:=by
 have G:V2.ownsRow B e sz v n xs:=World.ownsRow.kept (row:=none) h (ba F qt) (by cases v.ownBlock <;> simp)
 have E:=cP hm us o1 V2 G
 have h3:=cP (b:=R) (fun e'=>by have:=(h.lt R e'.symm).1; omega) vs o2 _ E
 refine ⟨h3.1,?_⟩
 rcases h3.2 with k1 | ⟨g',c',xr,k1,k2,k3⟩
 ·exact .inl k1
 ·exact .inr ⟨g',c',xr,k1,yN hC k2,k3⟩
structure GRs (W:World) (B:Nat) (gv:Value) (gl:List (List Ev)):Prop where
 ex:∃ gs:List Value,GRow W B gv gs∧gs.length = gl.length∧∀ (i:Nat) (g:Value) (es:List Ev),gs[i]? = some g→gl[i]? = some es→ERow W B g es
structure GRa (W:World) (B:Nat) (gv:Value) (gl:List (List Ev)):Prop where
 ex:∃ gs:List Value,GRow W B gv gs∧gs.length = gl.length∧(∀ (i:Nat) (g:Value) (es:List Ev),gs[i]? = some g→gl[i]? = some es→ERow W B g es)∧gs.Pairwise fun g g'=>∀ b b',g.ownBlock = some b→g'.ownBlock = some b'→b < b'
theorem implRunScript_any (v:Value) (cs:List Cm) (w:World) (hr:RdR Cm.vs 8 w v cs) (pW:∀ c ∈ cs,c.g.size ≤ maxLen) :
  Calls Tryz.prog 10 #[v] w fun e w'=>∃ gv vq,e = ym (.tuple #[.agg #[gv,H (rsF cs).n,vq,H (rsF cs).t.gr,H (rsF cs).t.ac,H (rsF cs).t.rf,H (rsF cs).t.tr,H (rsF cs).t.vo,H (rsF cs).t.no,H (rsF cs).t.li,H (rsF cs).t.le],H (cntF cs.length)])∧GRa w' w.heap.size gv (rsF cs).g∧ORow w' w.heap.size vq (rsF cs).l∧yn w w':=by
 have HR:=Y hr
 have qI:=Y pW
 obtain ⟨a,A,rfl,xE,hc⟩:=hr
 have xq:∀ (k:Nat) (c:Cm),cs[k]? = some c→∃ b off,a = some (J b off)∧b < w.heap.size∧w.rangeAt b (off + k * 8) c.vs:=by
  intro k c hk
  obtain ⟨b,off,G,E,h3⟩:=hc (by intro h; rw [h] at hk; simp at hk)
  exact ⟨b,off,G,E,h3 k c hk⟩
 have HC:=Y xq
 clear xq hc pW
 have hsf:=sfl
 have ko:=Y (fun W=>countFault_any cs.length xE W)
 have HCZ:=Y (@cntF_zero cs.length)
 have HF:Hid (rsF cs = if cs.length ≤ 200 then { runS cs with t:=wbT (runS cs).t (runS cs).l } else ⟨0,[],[],tot0⟩):=rfl
 generalize rsF cs = hb at HF ⊢
 generalize cntF cs.length = CF at ko HCZ ⊢
 have hbX:=eD w (eF #[.slice none 0 0,H 0,.slice none 0 0,H 0,H 0,H 0,H 0,H 0,H 0,H 0,H 0] 32)
 have HX:Hid ((w.alloc (eF #[.slice none 0 0,H 0,.slice none 0 0,H 0,H 0,H 0,H 0,H 0,H 0,H 0,H 0] 32)).heap.size = w.heap.size + 1∧World.there (w.alloc (eF #[.slice none 0 0,H 0,.slice none 0 0,H 0,H 0,H 0,H 0,H 0,H 0,H 0,H 0] 32)) w.heap.size 0 11):=⟨zh _ _,zv w [.slice none 0 0,H 0,.slice none 0 0,H 0,H 0,H 0,H 0,H 0,H 0,H 0,H 0] 32⟩
 have ux:=Y hbX
 clear hbX
 go_enter Tryz.func10,Tryz.ntmps10
 refine eH fun hj xu=>?_
 go_wp2_with fail
 refine U xu _ _ ?_
 clear xu
 generalize (w.alloc (eF #[.slice none 0 0,H 0,.slice none 0 0,H 0,H 0,H 0,H 0,H 0,H 0,H 0,H 0] 32)) = hR at HX ux ⊢
 refine eH fun hj xu=>?_
 go_wp2_with fail
 refine (U ko hR).mono ?_
 rintro e w3 ⟨rfl,hw3⟩
 rw [hw3]
 clear hw3 w3
 by_cases jz:cs.length ≤ 200
 rotate_left
 ·have xB:CF ≠ 0:=fun e=>jz ((U HCZ).1 e)
  have hneb:(CF != 0) = true:=by simpa using xB
  have qP:Hid (hb = ⟨0,[],[],tot0⟩):=(U HF).trans (if_neg jz)
  obtain ⟨y0,z0,q0⟩:=ze (U HX).2 (j:=0) (by omega)
  obtain ⟨y1,z1,q1⟩:=ze (U HX).2 (j:=1) (by omega)
  obtain ⟨y2,z2,q2⟩:=ze (U HX).2 (j:=2) (by omega)
  obtain ⟨y3,z3,q3⟩:=ze (U HX).2 (j:=3) (by omega)
  obtain ⟨y4,z4,q4⟩:=ze (U HX).2 (j:=4) (by omega)
  obtain ⟨y5,z5,q5⟩:=ze (U HX).2 (j:=5) (by omega)
  obtain ⟨y6,z6,q6⟩:=ze (U HX).2 (j:=6) (by omega)
  obtain ⟨y7,z7,q7⟩:=ze (U HX).2 (j:=7) (by omega)
  obtain ⟨y8,z8,q8⟩:=ze (U HX).2 (j:=8) (by omega)
  obtain ⟨y9,z9,q9⟩:=ze (U HX).2 (j:=9) (by omega)
  obtain ⟨y10,z10,q10⟩:=ze (U HX).2 (j:=10) (by omega)
  have xQ:=Y (yX hR w.heap.size 0 [.slice none 0 0,H 0,.slice none 0 0,H 0,H 0,H 0,H 0,H 0,H 0,H 0,H 0] (fun j K=>(U HX).2 j K))
  have qf:=Y (zo w.heap.size qt [.slice none 0 0,H 0,.slice none 0 0,H 0,H 0,H 0,H 0,H 0,H 0,H 0,H 0] 0 hR (U ux))
  clear HF ko HCZ HC
  go_wp2_with fail
  change bodyPost _ _ _ _ _ (hR.setCells w.heap.size 0 [.slice none 0 0,H 0,.slice none 0 0,H 0,H 0,H 0,H 0,H 0,H 0,H 0,H 0])
  generalize hR.setCells w.heap.size 0 [.slice none 0 0,H 0,.slice none 0 0,H 0,H 0,H 0,H 0,H 0,H 0,H 0,H 0] = WE at xQ qf ⊢
  obtain rfl:=U qP
  have d0:WE.cell? (yq w 0) = some (.slice none 0 0):=U xQ 0 _ rfl
  have d1:WE.cell? (yq w 1) = some (H 0):=U xQ 1 _ rfl
  have d2:WE.cell? (yq w 2) = some (.slice none 0 0):=U xQ 2 _ rfl
  have d3:WE.cell? (yq w 3) = some (H 0):=U xQ 3 _ rfl
  have d4:WE.cell? (yq w 4) = some (H 0):=U xQ 4 _ rfl
  have d5:WE.cell? (yq w 5) = some (H 0):=U xQ 5 _ rfl
  have d6:WE.cell? (yq w 6) = some (H 0):=U xQ 6 _ rfl
  have d7:WE.cell? (yq w 7) = some (H 0):=U xQ 7 _ rfl
  have d8:WE.cell? (yq w 8) = some (H 0):=U xQ 8 _ rfl
  have d9:WE.cell? (yq w 9) = some (H 0):=U xQ 9 _ rfl
  have d10:WE.cell? (yq w 10) = some (H 0):=U xQ 10 _ rfl
  refine bodyPost_ret (by simp [results,Tryz.results10,go_sem,d0,d1,d2,d3,d4,d5,d6,d7,d8,d9,d10]; try rfl) rfl ?_
  exact ⟨_,_,rfl,⟨[],World.ownsRow_nil _ _ _ _,rfl,(fun i g es hg=>by simp at hg),List.Pairwise.nil⟩,World.ownsRow_nil _ _ _ _,U qf⟩
 have hz:CF = 0:=(U HCZ).2 jz
 have hzb:(CF != 0) = false:=by rw [hz]; rfl
 have qP:Hid (hb = { runS cs with t:=wbT (runS cs).t (runS cs).l }):=(U HF).trans (if_pos jz)
 have HIV:=Y (run_take cs jz)
 subst hz
 clear HF ko HCZ
 go_wp2_with fail
 refine U xu _ _ ?_
 clear xu
 have vr:=eD hR (eF #[.slice none 0 0,H 1,.slice none 0 0,H 0,H 0,H 0,H 0,H 0,H 0,H 0,H 0,.slice none 0 0] 71)
 have ke:Hid (EnS hR.heap.size hR.heap.size (hR.alloc (eF #[.slice none 0 0,H 1,.slice none 0 0,H 0,H 0,H 0,H 0,H 0,H 0,H 0,H 0,.slice none 0 0] 71)).heap.size (hR.alloc (eF #[.slice none 0 0,H 1,.slice none 0 0,H 0,H 0,H 0,H 0,H 0,H 0,H 0,H 0,.slice none 0 0] 71)) (.slice none 0 0) [] [] 1 (.slice none 0 0) [] tot0 (.slice none 0 0) []):=⟨zi hR [.slice none 0 0,H 1,.slice none 0 0,H 0,H 0,H 0,H 0,H 0,H 0,H 0,H 0,.slice none 0 0] _,zv hR [.slice none 0 0,H 1,.slice none 0 0,H 0,H 0,H 0,H 0,H 0,H 0,H 0,H 0,.slice none 0 0] _,World.ownsRow_nil _ _ _ _,rfl,fun i g es hg=>by simp at hg,⟨fun g hg=>by simp at hg,List.Pairwise.nil⟩,World.ownsRow_nil _ _ _ _,World.ownsRow_nil _ _ _ _,⟨_,heap_alloc_new hR _⟩,vr.size,Nat.le_refl _⟩
 have ox:=Y vr
 clear vr
 refine eH fun hj xu=>?_
 go_wp2_with fail
 refine U xu _ _ ?_
 clear xu
 generalize (hR.alloc (eF #[.slice none 0 0,H 1,.slice none 0 0,H 0,H 0,H 0,H 0,H 0,H 0,H 0,H 0,.slice none 0 0] 71)) = yb at ke ox ⊢
 refine eH fun hj xu=>?_
 go_wp2_with fail
 go_loopw [20] (fun iv wr=>∃ (k:Nat),k ≤ cs.length∧iv = H k∧Hid ((∃ Bo gv gs vq,EnS hR.heap.size hR.heap.size Bo wr gv gs (runS (cs.take k)).g (runS (cs.take k)).n vq (runS (cs.take k)).l (runS (cs.take k)).t (.slice none 0 0) [])∧KeptBut hR.heap.size hR.heap.size yb wr)) (fun iv _=>cs.length - (intOf iv).toNat)
 case atStart=>exact ⟨0,Nat.zero_le _,rfl,⟨_,_,_,_,U ke⟩,⟨rfl,rfl,rfl,Nat.le_refl _,fun _ _ _=>rfl⟩⟩
 case round =>
  obtain ⟨k,hk,rfl,ub⟩:=hrel
  obtain ⟨⟨Bo,gv,gs,vq,hE⟩,hkb⟩:=U ub
  have HE:=Y hE
  have HKB:=Y hkb
  have xM:=Y (below_keptR ((U ux).trans ((U ox).mono (U ux).size)) hkb (U ux).size (U ux).size)
  clear ub hE hkb
  by_cases xJ:k < cs.length
  ·obtain ⟨e,jk⟩:∃ e,cs[k]? = some e:=⟨_,yH xJ⟩
   obtain ⟨b,off,rfl,F,xo⟩:=U HC k e jk
   have qb:=Y (cM cs jk)
   have un:(k:Int) < cs.length:=by omega
   obtain ⟨g0,g1,g2,g3,g4,g5,g6,g7⟩:=cm_cells (zb xo (U xM) F)
   obtain ⟨ps,hi2,hi3,hi4⟩:=U HIV k hk
   have htge:=U qI e (yO jk)
   have oT:=(U HE).glen
   have hbA:=eD wr (eF (yw e.k e.s e.t e.l e.q e.i e.p e.g).toArray 43)
   have HDO:=Y (doE_any e _ (zQ (U HE) hbA) ps.good (by omega) (by omega) htge (by omega))
   have HKA:=Y (zk (U HKB) (zC (mb:=hR.heap.size) (B:=hR.heap.size) hbA (yN (U HE).bo (U HE).le)))
   unfold cmV at HDO
   clear xo F hbA ps hi2 hi3 hi4 htge oT jk
   go_wp2_with fail
   refine (U HDO).mono ?_
   rintro r w5 ⟨rfl,⟨Bo5,gv5,gs5,vq5,qS⟩,hk5⟩
   have vZ:=Y qS
   have kt:=Y (zk (U HKA) hk5)
   clear qS hk5 HDO g0 g1 g2 g3 g4 g5 g6 g7
   go_wp2_with fail
   go_roundw
   case rel=>exact ⟨k + 1,by omega,by go_num,⟨Bo5,gv5,gs5,vq5,by rw [U qb]; exact U vZ⟩,U kt⟩
   case measure=>simp [intOf]; omega
  ·have un:¬ (k:Int) < cs.length:=by omega
   rw [yZ (by omega)] at HE
   go_wp2_with fail
   refine U xu _ _ ?_
   clear xu xJ un
   have hI:=run_inv cs jz
   generalize runS cs = s at HE qP hI
   obtain ⟨sn,sl,sg,st⟩:=s
   simp only at HE qP hI
   have kX:=hI.1.good.len
   obtain ⟨av,cv,hv⟩:=zT (U HE).orow
   subst hv
   obtain ⟨ga,gc,hgv⟩:=zT (U HE).grow
   subst hgv
   have HRO:=Y (zN (U HE).orow (by omega))
   have jW:=(U HE).lt
   have HWB:=Y (fun V hV=>withBook_any st sn (.slice av sl.length cv) sl V hV)
   generalize wbT st sl = T at HWB qP
   have HT:Hid (wr.rangeAt hR.heap.size 3 st.vs):=fun j u K=>by
    have:=(U HE).cells (3 + j) u (by
     match j,K with
     | 0,K | 1,K | 2,K | 3,K | 4,K | 5,K | 6,K | 7,K=>exact K
     | j + 8,K=>simp [Tot.vs] at K)
    rwa [Nat.zero_add] at this
   have jI:Hid (wr.there hR.heap.size 3 8):=fun j K=>by
    have:=(U HE).there (3 + j) (by omega)
    rwa [Nat.zero_add] at this
   have HM0:Hid (wr.cell? (yq hR 0) = some (.slice ga gs.length gc)):=(U HE).cells 0 _ rfl
   have qa:Hid (wr.cell? (yq hR 1) = some (H sn)):=(U HE).cells 1 _ rfl
   have vC:Hid (wr.cell? (yq hR 2) = some (.slice av sl.length cv)):=(U HE).cells 2 _ rfl
   have vU:Hid (wr.there w.heap.size 0 11):=there_blk (zg (U HX).2 (U ox) (by have:=(U HX).1; omega)) ((U HKB).block _ (by have:=(U HX).1; omega) (by have:=(U HX).1; omega))
   obtain ⟨ud,uc,uf,ug,uh,ue,uu,ut⟩:=T
   simp only at HWB
   have n1:=U qa
   have n2:=U vC
   have n3:wr.cell? (yq hR 3) = some (H st.gr):=U HT 0 _ rfl
   have n4:wr.cell? (yq hR 4) = some (H st.ac):=U HT 1 _ rfl
   have n5:wr.cell? (yq hR 5) = some (H st.rf):=U HT 2 _ rfl
   have n6:wr.cell? (yq hR 6) = some (H st.tr):=U HT 3 _ rfl
   have n7:wr.cell? (yq hR 7) = some (H st.vo):=U HT 4 _ rfl
   have n8:wr.cell? (yq hR 8) = some (H st.no):=U HT 5 _ rfl
   have n9:wr.cell? (yq hR 9) = some (H st.li):=U HT 6 _ rfl
   have af:wr.cell? (yq hR 10) = some (H st.le):=U HT 7 _ rfl
   refine eH fun hj xu=>?_
   go_wp2_with fail
   refine (U HWB wr (U HRO)).mono ?_
   rintro e V2 ⟨rfl,xY⟩
   clear n1 n2 n3 n4 n5 n6 n7 n8 n9 af
   have xF:=zg (U jI) xY jW
   obtain ⟨y0,z0,q0⟩:=bw xF (j:=0) (by omega)
   obtain ⟨y1,z1,q1⟩:=bw xF (j:=1) (by omega)
   obtain ⟨y2,z2,q2⟩:=bw xF (j:=2) (by omega)
   obtain ⟨y3,z3,q3⟩:=bw xF (j:=3) (by omega)
   obtain ⟨y4,z4,q4⟩:=bw xF (j:=4) (by omega)
   obtain ⟨y5,z5,q5⟩:=bw xF (j:=5) (by omega)
   obtain ⟨y6,z6,q6⟩:=bw xF (j:=6) (by omega)
   obtain ⟨y7,z7,q7⟩:=bw xF (j:=7) (by omega)
   clear xF
   have vn:=Y xY
   clear xY
   go_wp2_with fail
   refine U xu _ _ ?_
   clear xu z0 q0 z1 q1 z2 q2 z3 q3 z4 q4 z5 q5 z6 q6 z7 q7
   change Code.wp _ _ _ _ (V2.setCells hR.heap.size 3 (Tot.mk ud uc uf ug uh ue uu ut).vs)
   have xY:=U vn
   generalize eV':V2.setCells hR.heap.size 3 (Tot.mk ud uc uf ug uh ue uu ut).vs = V
   have eV:=eV'.symm
   clear eV'
   have xD:=Y xY
   have vH:=Y eV
   have kF:hR.heap.size < V2.heap.size:=yJ jW xY.size
   have HC0:Hid (∀ j u,j < 3→wr.cell? (yq hR j) = some u→V.cell? (yq hR j) = some u):=fun j u K hu=>by
    rw [eV]
    refine (World.cell?_setCells_out hR.heap.size _ 3 V2 (yq hR j) (fun _ _=>.inl K)).trans ?_
    exact (xY.cell (p:=(yq hR j)) jW).trans hu
   have ji:Hid (V.rangeAt hR.heap.size 3 (Tot.mk ud uc uf ug uh ue uu ut).vs):=by
    rw [eV]
    exact yX V2 hR.heap.size 3 _ (fun j K=>by
     have:=zg (U jI) xY jW j (by simpa [Tot.vs] using K)
     exact this)
   have qC:Hid (V.there w.heap.size 0 11):=by
    rw [eV]
    exact there_blk (zg (U vU) xY (by have:=(U HX).1; omega)) (dp hR.heap.size w.heap.size (by have:=(U HX).1; omega) _ 3 V2)
   have xB:w.heap.size ≠ hR.heap.size:=by have:=(U HX).1; omega
   have xv:Hid (yn w V):=by
    rw [eV]
    exact zo hR.heap.size (U ux).size _ 3 V2 (D (U xM) xY)
   clear eV xY
   have m0:=U HC0 0 _ (by omega) (U HM0)
   have m1:=U HC0 1 _ (by omega) (U qa)
   have m2:=U HC0 2 _ (by omega) (U vC)
   have m3:V.cell? (yq hR 3) = some (H ud):=U ji 0 _ rfl
   have m4:V.cell? (yq hR 4) = some (H uc):=U ji 1 _ rfl
   have m5:V.cell? (yq hR 5) = some (H uf):=U ji 2 _ rfl
   have m6:V.cell? (yq hR 6) = some (H ug):=U ji 3 _ rfl
   have m7:V.cell? (yq hR 7) = some (H uh):=U ji 4 _ rfl
   have m8:V.cell? (yq hR 8) = some (H ue):=U ji 5 _ rfl
   have m9:V.cell? (yq hR 9) = some (H uu):=U ji 6 _ rfl
   have m10:V.cell? (yq hR 10) = some (H ut):=U ji 7 _ rfl
   obtain ⟨y0,z0,q0⟩:=ze (U qC) (j:=0) (by omega)
   obtain ⟨y1,z1,q1⟩:=ze (U qC) (j:=1) (by omega)
   obtain ⟨y2,z2,q2⟩:=ze (U qC) (j:=2) (by omega)
   obtain ⟨y3,z3,q3⟩:=ze (U qC) (j:=3) (by omega)
   obtain ⟨y4,z4,q4⟩:=ze (U qC) (j:=4) (by omega)
   obtain ⟨y5,z5,q5⟩:=ze (U qC) (j:=5) (by omega)
   obtain ⟨y6,z6,q6⟩:=ze (U qC) (j:=6) (by omega)
   obtain ⟨y7,z7,q7⟩:=ze (U qC) (j:=7) (by omega)
   obtain ⟨y8,z8,q8⟩:=ze (U qC) (j:=8) (by omega)
   obtain ⟨y9,z9,q9⟩:=ze (U qC) (j:=9) (by omega)
   obtain ⟨y10,z10,q10⟩:=ze (U qC) (j:=10) (by omega)
   have xQ:=Y (yX V w.heap.size 0 [.slice ga gs.length gc,H sn,.slice av sl.length cv,H ud,H uc,H uf,H ug,H uh,H ue,H uu,H ut] (fun j K=>U qC j K))
   have qf:=Y (zo w.heap.size qt [.slice ga gs.length gc,H sn,.slice av sl.length cv,H ud,H uc,H uf,H ug,H uh,H ue,H uu,H ut] 0 V (U xv))
   have vK:Hid (∀ {e sz n:Nat} {v:Value} {xs:List Value},wr.ownsRow hR.heap.size e sz v n xs→71 ≠ e→World.ownsRow (V.setCells w.heap.size 0 [.slice ga gs.length gc,H sn,.slice av sl.length cv,H ud,H uc,H uf,H ug,H uh,H ue,H uu,H ut]) w.heap.size e sz v n xs):=fun {e sz n v xs} h hne'=>by
    rw [U vH]
    exact row_end h (zl h (U HE).box hne') (U xD) (by have:=(U HX).1; omega) (U ux).size _ _ _ _
   have HG:Hid (GRa (V.setCells w.heap.size 0 [.slice ga gs.length gc,H sn,.slice av sl.length cv,H ud,H uc,H uf,H ug,H uh,H ue,H uu,H ut]) w.heap.size (.slice ga gs.length gc) sg):=⟨gs,U vK (U HE).grow (by decide),(U HE).glen,fun i g es hg vh=>U vK ((U HE).geach i g es hg vh) (by decide),(U HE).glt.2⟩
   have HO:Hid (ORow (V.setCells w.heap.size 0 [.slice ga gs.length gc,H sn,.slice av sl.length cv,H ud,H uc,H uf,H ug,H uh,H ue,H uu,H ut]) w.heap.size (.slice av sl.length cv) sl):=U vK (U HE).orow (by decide)
   clear vK
   go_wp2_with fail
   change bodyPost _ _ _ _ _ (V.setCells w.heap.size 0 [.slice ga gs.length gc,H sn,.slice av sl.length cv,H ud,H uc,H uf,H ug,H uh,H ue,H uu,H ut])
   generalize V.setCells w.heap.size 0 [.slice ga gs.length gc,H sn,.slice av sl.length cv,H ud,H uc,H uf,H ug,H uh,H ue,H uu,H ut] = WE at xQ qf HG HO ⊢
   obtain rfl:=U qP
   have d0:WE.cell? (yq w 0) = some (.slice ga gs.length gc):=U xQ 0 _ rfl
   have d1:WE.cell? (yq w 1) = some (H sn):=U xQ 1 _ rfl
   have d2:WE.cell? (yq w 2) = some (.slice av sl.length cv):=U xQ 2 _ rfl
   have d3:WE.cell? (yq w 3) = some (H ud):=U xQ 3 _ rfl
   have d4:WE.cell? (yq w 4) = some (H uc):=U xQ 4 _ rfl
   have d5:WE.cell? (yq w 5) = some (H uf):=U xQ 5 _ rfl
   have d6:WE.cell? (yq w 6) = some (H ug):=U xQ 6 _ rfl
   have d7:WE.cell? (yq w 7) = some (H uh):=U xQ 7 _ rfl
   have d8:WE.cell? (yq w 8) = some (H ue):=U xQ 8 _ rfl
   have d9:WE.cell? (yq w 9) = some (H uu):=U xQ 9 _ rfl
   have d10:WE.cell? (yq w 10) = some (H ut):=U xQ 10 _ rfl
   refine bodyPost_ret (by simp [results,Tryz.results10,go_sem,d0,d1,d2,d3,d4,d5,d6,d7,d8,d9,d10]; try rfl) rfl ?_
   exact ⟨_,_,rfl,U HG,U HO,U qf⟩
end Go.Proofs.YtbakanofkghmiaaGreat
