/-
  Groups held against each other by the program, and the commands that groups tell: proved by walking the functions.
-/
import Derived.Test.YtbakanofkghmiaaGreatQj34
import Derived.Test.YtbakanofkghmiaaGreatQj47
set_option linter.unusedVariables false
set_option maxHeartbeats 6400000
set_option maxRecDepth 100000
namespace Go.Proofs.YtbakanofkghmiaaGreat
open Go.RowKit
theorem eqGdS (a b:Ev) (W:World):(eqGuard .eql 187 (.tmp 6) (.tmp 8) (vlV a) (vlV b)).run Tryz.prog W = .ok () W:=by
 unfold vlV
 go_simp
def SV (a b:Ev):Nat→Value→Prop
 | 0,v=>v = evV a
 | 1,v=>v = vlV a
 | 2,v=>v = evV b
 | 3,v=>v = vlV b
 | 4,v=>v = .bool (sameE a b)
 | 5,v=>v = .bool (sameE a b)
 | _,_=>True
set_option maxRecDepth 100000 in
set_option maxHeartbeats 1600000 in
theorem implSameE_any (a b:Ev) (w:World) :
  Calls Tryz.prog 94 #[evV a,evV b] w fun e w'=>e = .returned (.bool (sameE a b))∧Below w.heap.size w w':=by
 have xC:(w.alloc (Obj.cells a.vs.toArray 46)).heap.size = w.heap.size + 1:=zh _ _
 have ua:((w.alloc (Obj.cells a.vs.toArray 46)).alloc (Obj.cells b.vs.toArray 46)).heap.size = w.heap.size + 1 + 1:=by rw [zh,xC]
 have r0:=zb (dU w a.vs 46) (C:=w.heap.size + 1) ((Below.refl _ _).alloc (by rw [xC]; omega) (Obj.cells b.vs.toArray 46)) (by omega)
 have r1:=dU (w.alloc (Obj.cells a.vs.toArray 46)) b.vs 46
 rw [xC] at r1
 have uO:Hid (Below w.heap.size w ((w.alloc (Obj.cells a.vs.toArray 46)).alloc (Obj.cells b.vs.toArray 46))):=((Below.refl _ _).alloc (Nat.le_refl _) _).alloc (by rw [xC]; omega) _
 have HX:Hid (_∧_):=⟨r0,r1⟩
 have qw:=hide ua
 clear r0 r1 xC ua
 have hga:=eqGdS a b
 have hva:=fun W=>eqVlE a b W
 unfold evV
 go_enter Tryz.func94,Tryz.ntmps94
 go_wp2_with fail
 unfold Ev.vs at uO HX qw
 generalize hW:((w.alloc (Obj.cells (List.toArray [.int .i64 a.kind,.int .i64 a.cmd.k,.int .i64 a.cmd.s,.int .i64 a.cmd.t,.int .i64 a.cmd.l,.int .i64 a.cmd.q,.int .i64 a.cmd.i,.float .f64 a.cmd.p,.string a.cmd.g,.int .i64 a.id,.int .i64 a.other,.int .i64 a.qty,.int .i64 a.price,.int .i64 a.reason]) 46)).alloc (Obj.cells (List.toArray [.int .i64 b.kind,.int .i64 b.cmd.k,.int .i64 b.cmd.s,.int .i64 b.cmd.t,.int .i64 b.cmd.l,.int .i64 b.cmd.q,.int .i64 b.cmd.i,.float .f64 b.cmd.p,.string b.cmd.g,.int .i64 b.id,.int .i64 b.other,.int .i64 b.qty,.int .i64 b.price,.int .i64 b.reason]) 46)) = W at uO HX qw
 refine dk (RGrow W (fun f=>{ tmps:=#[evV a,evV b,.pointer (some ⟨w.heap.size,0,none⟩),.pointer (some ⟨w.heap.size + 1,0,none⟩),f 5,f 0,f 1,f 2,f 3,f 4],defers:=[] }) (SV a b)) (by kernel_rfl) ?_ ?_ ?_
 ·refine ⟨upd (fun _=>undef) 5 (.bool false),rfl,?_,fun j R=>by rw [yJ] at R; split at R <;> simp at R⟩
  rw [← hW]
  exact ⟨rfl,rfl,rfl,Nat.le_refl _,fun _ _=>rfl⟩
 ·rintro x xn V ⟨f,rfl,xm,hC⟩ hx xN
  have oJ:=zS xN hx (acyc _ (by kernel_rfl)) 5 (by simp)
  have e7:f 5 = .bool (sameE a b):=hC 5 oJ
  simp only [e7]
  have xw:=hide xm
  clear hC hx xN oJ e7 xm hga hva
  go_wp2_with fail
  go_ret
  exact ⟨rfl,(U uO).trans ((U xw).mono (U uO).size)⟩
 ·rintro x xn V i o ⟨f,rfl,xm,hC⟩ hx Z xz D
  have xw:=hide xm
  have HC:=hide hC
  have hw0:w.heap.size < W.heap.size:=by rw [U qw]; omega
  have hw1:w.heap.size + 1 < W.heap.size:=by rw [U qw]; omega
  match i,Z with
  | 0,Z =>
   obtain rfl:=Option.some.inj Z
   obtain ⟨g0,g1,g2,g3,g4,g5,g6,g7,g8,g9,qx,vw,xZ,jV⟩:=cw (e:=a) (zb (U HX).1 xm hw0)
   simp only [Nat.zero_add] at g0 g1 g2 g3 g4 g5 g6 g7 g8 g9 qx vw xZ jV
   clear D hC xm hga hva
   rw [if_pos (by rfl)]
   unfold Oper.wp
   go_simp
   exact ⟨upd f 0 (evV a),by simp [upd,evV],U xw,zy (U HC) rfl⟩
  | 1,Z =>
   obtain rfl:=Option.some.inj Z
   have g1:f 0 = evV a:=hC 0 (D ⟨0,.data⟩ (by simp) rfl)
   clear D hC xm hga hva
   rw [if_pos (by rfl)]
   unfold Oper.wp
   go_simp
   refine (dX a V).mono ?_
   rintro e w4 ⟨rfl,xD⟩
   exact ⟨upd f 1 (vlV a),by simp [upd,g1],(U xw).trans (xD.mono (U xw).size),zy (U HC) rfl⟩
  | 2,Z =>
   obtain rfl:=Option.some.inj Z
   obtain ⟨g0,g1,g2,g3,g4,g5,g6,g7,g8,g9,qx,vw,xZ,jV⟩:=cw (e:=b) (zb (U HX).2 xm hw1)
   simp only [Nat.zero_add] at g0 g1 g2 g3 g4 g5 g6 g7 g8 g9 qx vw xZ jV
   clear D hC xm hga hva
   rw [if_pos (by rfl)]
   unfold Oper.wp
   go_simp
   exact ⟨upd f 2 (evV b),by simp [upd,evV],U xw,zy (U HC) rfl⟩
  | 3,Z =>
   obtain rfl:=Option.some.inj Z
   have g1:f 2 = evV b:=hC 2 (D ⟨2,.data⟩ (by simp) rfl)
   clear D hC xm hga hva
   rw [if_pos (by rfl)]
   unfold Oper.wp
   go_simp
   refine (dX b V).mono ?_
   rintro e w4 ⟨rfl,xD⟩
   exact ⟨upd f 3 (vlV b),by simp [upd,g1],(U xw).trans (xD.mono (U xw).size),zy (U HC) rfl⟩
  | 4,Z =>
   obtain rfl:=Option.some.inj Z
   have g2:f 1 = vlV a:=hC 1 (D ⟨1,.data⟩ (by simp) rfl)
   have g5:f 3 = vlV b:=hC 3 (D ⟨3,.data⟩ (by simp) rfl)
   have he:=hva V
   have hg:=hga V
   clear D hC xm hva hga
   rw [if_pos (by rfl)]
   unfold Oper.wp
   go_simp
   exact ⟨upd f 4 (.bool (sameE a b)),by simp [upd,g2,g5],U xw,zy (U HC) rfl⟩
  | 5,Z =>
   obtain rfl:=Option.some.inj Z
   have g6:f 4 = .bool (sameE a b):=hC 4 (D ⟨4,.data⟩ (by simp) rfl)
   clear D hC xm hga hva
   rw [if_pos (by rfl)]
   unfold Oper.wp
   go_simp
   exact ⟨upd f 5 (.bool (sameE a b)),by simp [upd,g6],U xw,zy (U HC) rfl⟩
  | n + 6,Z=>simp at Z
def esB:List Ev→List Ev→Bool
 | [],[]=>true
 | a :: xs,b :: ys=>sameE a b && esB xs ys
 | _,_=>false
def gsB:List (List Ev)→List (List Ev)→Bool
 | [],[]=>true
 | a :: xs,b :: ys=>esB a b && gsB xs ys
 | _,_=>false
theorem sameE_self (e:Ev):sameE e e = true:=by rw [sameE]; simp
theorem esB_self:∀ es:List Ev,esB es es = true
 | []=>rfl
 | e :: es=>by rw [esB,sameE_self,esB_self es]; rfl
theorem gsB_self:∀ gs:List (List Ev),gsB gs gs = true
 | []=>rfl
 | e :: es=>by rw [gsB,esB_self,gsB_self es]; rfl
theorem esB_len:∀ {a b:List Ev},a.length ≠ b.length→esB a b = false
 | [],[],h=>absurd rfl h
 | _ :: xs,_ :: ys,h=>by rw [esB,esB_len (a:=xs) (b:=ys) (fun e=>h (by simp [e]))]; simp
 | [],_ :: _,_=>rfl
 | _ :: _,[],_=>rfl
theorem gsB_len:∀ {a b:List (List Ev)},a.length ≠ b.length→gsB a b = false
 | [],[],h=>absurd rfl h
 | _ :: xs,_ :: ys,h=>by rw [gsB,gsB_len (a:=xs) (b:=ys) (fun e=>h (by simp [e]))]; simp
 | [],_ :: _,_=>rfl
 | _ :: _,[],_=>rfl
theorem dropX {α:Type} {l:List α} {k:Nat} {c:α} (h:l[k]? = some c):l.drop k = c :: l.drop (k + 1):=by
 obtain ⟨xL,hc⟩:=yH.1 h
 rw [← hc]; exact xd xL
set_option maxRecDepth 100000 in
set_option maxHeartbeats 1600000 in
theorem eqFuncE_any (va vb:Value) (l m:List Ev) (w:World) (ha:RdR Ev.vs 14 w va l) (X:RdR Ev.vs 14 w vb m) :
  Calls Tryz.prog 93 #[va,vb,.func (.func 94) #[] #[]] w fun e w'=>e = .returned (.bool (esB l m))∧Below w.heap.size w w':=by
 obtain ⟨aa,ca,rfl,hl,hca⟩:=ha
 obtain ⟨ab,cb,rfl,hm,hcb⟩:=X
 by_cases xB:l.length = m.length
 ·have xr:∀ (k:Nat) (c:Ev),l[k]? = some c→∃ d b off b' uM,m[k]? = some d∧aa = some ⟨b,off,none⟩∧ab = some ⟨b',uM,none⟩∧b < w.heap.size∧b' < w.heap.size∧w.rangeAt b (off + k * 14) c.vs∧w.rangeAt b' (uM + k * 14) d.vs:=by
   intro k c hk
   have xL:=(yH.1 hk).1
   obtain ⟨d,hd⟩:∃ d,m[k]? = some d:=⟨_,yI (by omega)⟩
   obtain ⟨b,off,Q,N,h3⟩:=hca (by intro h; rw [h] at hk; simp at hk)
   obtain ⟨b',uM,oH,kH,h3'⟩:=hcb (by intro h; rw [h] at hd; simp at hd)
   exact ⟨d,b,off,b',uM,hd,Q,oH,N,kH,h3 k c hk,h3' k d hd⟩
  have HC:=hide xr
  have hnb:((l.length:Int) != (m.length:Int)) = false:=by rw [xB]; simp
  have ax:=hide xB
  clear xr hca hcb xB
  go_enter Tryz.func93,Tryz.ntmps93
  go_wp2_with fail
  clear hnb
  go_loopw [17] (fun i wr=>∃ k:Nat,k ≤ l.length∧i = .int .i64 k∧Hid (esB l m = esB (l.drop k) (m.drop k))∧Below w.heap.size w wr) (fun i _=>l.length - (intOf i).toNat)
  case atStart=>exact ⟨0,Nat.zero_le _,rfl,rfl,Below.refl _ _⟩
  case round =>
   obtain ⟨k,hk,rfl,uS,xm⟩:=hrel
   have HB:=hide xm
   clear xm
   by_cases xL:k < l.length
   ·obtain ⟨c,vd⟩:∃ c,l[k]? = some c:=⟨_,yI xL⟩
    obtain ⟨d,b,off,b',uM,hkd,rfl,rfl,X,kw,xp,qk⟩:=U HC k c vd
    obtain ⟨g0,g1,g2,g3,g4,g5,g6,g7,g8,g9,qx,vw,xZ,jV⟩:=cw (zb xp (U HB) X)
    obtain ⟨e0,e1,e2,e3,e4,e5,e6,e7,e8,e9,oG,e11,e12,e13⟩:=cw (zb (zb qk (U HB) kw) ((Below.refl wr.heap.size wr).alloc (Nat.le_refl _) (Obj.cells #[.int .i64 c.kind,.int .i64 c.cmd.k,.int .i64 c.cmd.s,.int .i64 c.cmd.t,.int .i64 c.cmd.l,.int .i64 c.cmd.q,.int .i64 c.cmd.i,.float .f64 c.cmd.p,.string c.cmd.g,.int .i64 c.id,.int .i64 c.other,.int .i64 c.qty,.int .i64 c.price,.int .i64 c.reason] 46)) (yK kw (U HB).size))
    have uy:(k:Int) < l.length:=by omega
    have hltm:(k:Int) < m.length:=by have:=U ax; omega
    have HS:Hid (esB l m = (sameE c d && esB (l.drop (k + 1)) (m.drop (k + 1)))):=by
     have:=U uS
     rw [dropX vd,dropX hkd] at this
     exact this
    clear vd hkd xp qk X kw uS
    have xE:Hid (Below w.heap.size w ((wr.alloc (Obj.cells #[.int .i64 c.kind,.int .i64 c.cmd.k,.int .i64 c.cmd.s,.int .i64 c.cmd.t,.int .i64 c.cmd.l,.int .i64 c.cmd.q,.int .i64 c.cmd.i,.float .f64 c.cmd.p,.string c.cmd.g,.int .i64 c.id,.int .i64 c.other,.int .i64 c.qty,.int .i64 c.price,.int .i64 c.reason] 46)).alloc (Obj.cells #[.int .i64 d.kind,.int .i64 d.cmd.k,.int .i64 d.cmd.s,.int .i64 d.cmd.t,.int .i64 d.cmd.l,.int .i64 d.cmd.q,.int .i64 d.cmd.i,.float .f64 d.cmd.p,.string d.cmd.g,.int .i64 d.id,.int .i64 d.other,.int .i64 d.qty,.int .i64 d.price,.int .i64 d.reason] 46))):=((U HB).alloc (U HB).size _).alloc (yO (U HB).size (by simp)) _
    have hsf:=sfl
    go_wp2_with fail
    refine (implSameE_any c d _).mono ?_
    rintro e w3 ⟨rfl,um⟩
    have xQ:=hide ((U xE).trans (um.mono (U xE).size))
    clear um xE
    cases hs:sameE c d
    ·have HE:Hid (esB l m = false):=by have:=U HS; rw [hs,Bool.false_and] at this; exact this
     go_wp2_with fail
     go_ret
     exact ⟨zB (U HE).symm,U xQ⟩
    ·have HE:Hid (esB l m = esB (l.drop (k + 1)) (m.drop (k + 1))):=by have:=U HS; rw [hs,Bool.true_and] at this; exact this
     go_wp2_with fail
     go_roundw
     case rel=>exact ⟨k + 1,by omega,by go_num,U HE,U xQ⟩
     case measure=>simp [intOf]; omega
   ·have HE:Hid (esB l m = true):=by
     have:=U uS
     rw [xb (by omega),xb (by have:=U ax; omega)] at this
     exact this
    go_wp2_with fail
    go_ret
    exact ⟨zB (U HE).symm,U HB⟩
 ·have hnb:((l.length:Int) != (m.length:Int)) = true:=by simpa using fun e=>xB (by omega)
  rw [esB_len xB]
  clear xB hca hcb
  go_enter Tryz.func93,Tryz.ntmps93
  go_wp2_with fail
  go_ret
  exact ⟨rfl,Below.refl _ _⟩
theorem sameGroup_any (va vb:Value) (l m:List Ev) (w:World) (ha:RdR Ev.vs 14 w va l) (X:RdR Ev.vs 14 w vb m) :
  Calls Tryz.prog 47 #[va,vb] w fun e w'=>e = .returned (.bool (esB l m))∧Below w.heap.size w w':=by
 have HA:=hide ha
 have HB:=hide X
 obtain ⟨aa,ca,rfl,-,-⟩:=ha
 obtain ⟨ab,cb,rfl,-,-⟩:=X
 go_enter Tryz.func47,Tryz.ntmps47
 go_wp2_with fail
 refine (eqFuncE_any _ _ l m w (U HA) (U HB)).mono ?_
 rintro e w3 ⟨rfl,um⟩
 have xQ:=hide um
 clear um
 go_wp2_with fail
 go_ret
 exact ⟨rfl,U xQ⟩
set_option maxRecDepth 100000 in
set_option maxHeartbeats 1600000 in
theorem eqFuncG_any (va vb:Value) (l m:List (List Ev)) (w:World) (ha:RdG w va l) (X:RdG w vb m) :
  Calls Tryz.prog 46 #[va,vb,.func (.func 47) #[] #[]] w fun e w'=>e = .returned (.bool (gsB l m))∧Below w.heap.size w w':=by
 obtain ⟨aa,ca,rfl,hl,hca⟩:=ha
 obtain ⟨ab,cb,rfl,hm,hcb⟩:=X
 by_cases xB:l.length = m.length
 ·have xr:∀ (k:Nat) (c:List Ev),l[k]? = some c→∃ d b off b' uM ga gc ga' gc',m[k]? = some d∧aa = some ⟨b,off,none⟩∧ab = some ⟨b',uM,none⟩∧b < w.heap.size∧b' < w.heap.size∧w.cell? ⟨b,off + k,none⟩ = some (.slice ga c.length gc)∧w.cell? ⟨b',uM + k,none⟩ = some (.slice ga' d.length gc')∧RdR Ev.vs 14 w (.slice ga c.length gc) c∧RdR Ev.vs 14 w (.slice ga' d.length gc') d:=by
   intro k c hk
   have xL:=(yH.1 hk).1
   obtain ⟨d,hd⟩:∃ d,m[k]? = some d:=⟨_,yI (by omega)⟩
   obtain ⟨b,off,Q,N,h3⟩:=hca (by intro h; rw [h] at hk; simp at hk)
   obtain ⟨b',uM,oH,kH,h3'⟩:=hcb (by intro h; rw [h] at hd; simp at hd)
   obtain ⟨g,h4,h5⟩:=h3 k c hk
   obtain ⟨g',h4',h5'⟩:=h3' k d hd
   obtain ⟨ga,gc,rfl,_⟩:=id h5
   obtain ⟨ga',gc',rfl,_⟩:=id h5'
   exact ⟨d,b,off,b',uM,ga,gc,ga',gc',hd,Q,oH,N,kH,h4,h4',h5,h5'⟩
  have HC:=hide xr
  have hnb:((l.length:Int) != (m.length:Int)) = false:=by rw [xB]; simp
  have ax:=hide xB
  clear xr hca hcb xB
  go_enter Tryz.func46,Tryz.ntmps46
  go_wp2_with fail
  clear hnb
  go_loopw [17] (fun i wr=>∃ k:Nat,k ≤ l.length∧i = .int .i64 k∧Hid (gsB l m = gsB (l.drop k) (m.drop k))∧Below w.heap.size w wr) (fun i _=>l.length - (intOf i).toNat)
  case atStart=>exact ⟨0,Nat.zero_le _,rfl,rfl,Below.refl _ _⟩
  case round =>
   obtain ⟨k,hk,rfl,uS,xm⟩:=hrel
   have HB:=hide xm
   clear xm
   by_cases xL:k < l.length
   ·obtain ⟨c,vd⟩:∃ c,l[k]? = some c:=⟨_,yI xL⟩
    obtain ⟨d,b,off,b',uM,ga,gc,ga',gc',hkd,rfl,rfl,X,kw,xp,qk,hr,hr'⟩:=U HC k c vd
    have g0:=((U HB).cell (p:=⟨b,off + k,none⟩) X).trans xp
    have g1:=((U HB).cell (p:=⟨b',uM + k,none⟩) kw).trans qk
    have HRA:=hide (zn hr (U HB) (Nat.le_refl _))
    have HRB:=hide (zn hr' (U HB) (Nat.le_refl _))
    have uy:(k:Int) < l.length:=by omega
    have hltm:(k:Int) < m.length:=by have:=U ax; omega
    have HS:Hid (gsB l m = (esB c d && gsB (l.drop (k + 1)) (m.drop (k + 1)))):=by
     have:=U uS
     rw [dropX vd,dropX hkd] at this
     exact this
    clear vd hkd xp qk X kw uS hr hr'
    go_wp2_with fail
    refine (sameGroup_any _ _ c d _ (U HRA) (U HRB)).mono ?_
    rintro e w3 ⟨rfl,um⟩
    have xQ:=hide ((U HB).trans (um.mono (U HB).size))
    clear um
    cases hs:esB c d
    ·have HE:Hid (gsB l m = false):=by have:=U HS; rw [hs,Bool.false_and] at this; exact this
     go_wp2_with fail
     go_ret
     exact ⟨zB (U HE).symm,U xQ⟩
    ·have HE:Hid (gsB l m = gsB (l.drop (k + 1)) (m.drop (k + 1))):=by have:=U HS; rw [hs,Bool.true_and] at this; exact this
     go_wp2_with fail
     go_roundw
     case rel=>exact ⟨k + 1,by omega,by go_num,U HE,U xQ⟩
     case measure=>simp [intOf]; omega
   ·have HE:Hid (gsB l m = true):=by
     have:=U uS
     rw [xb (by omega),xb (by have:=U ax; omega)] at this
     exact this
    go_wp2_with fail
    go_ret
    exact ⟨zB (U HE).symm,U HB⟩
 ·have hnb:((l.length:Int) != (m.length:Int)) = true:=by simpa using fun e=>xB (by omega)
  rw [gsB_len xB]
  clear xB hca hcb
  go_enter Tryz.func46,Tryz.ntmps46
  go_wp2_with fail
  go_ret
  exact ⟨rfl,Below.refl _ _⟩
theorem cellsJ {W:World} {s:Nat} (hs:W.heap.size = s) (cs:List Value) (t:TypeId) (j:Nat) (u:Value) (h:cs[j]? = some u):(W.alloc (Obj.cells cs.toArray t)).cell? ((⟨s,0,none⟩:Addr).add j) = some u:=by
 subst hs; exact cells_srcD W cs t j u h
theorem own_keep {w w':World} {base e z n:Nat} {v:Value} {xs:List Value} (h:w.ownsRow base e z v n xs) (X:Below w.heap.size w w'):w'.ownsRow base e z v n xs :=
 h.kept (aW (G:=none) X (Nat.le_refl _)) (by cases hv:v.ownBlock with | none=>exact .inl rfl | some k=>exact .inr (by simp))
def TolR (w:World) (gs:List (List Ev)) (e:Ending) (w':World):Prop :=
 (∃ ts v,tolL gs = some ts∧e = .returned (.tuple #[v,.bool true])∧w'.ownsRow w.heap.size 43 8 v ts.length (ts.flatMap Cm.vs)∧Below w.heap.size w w') ∨
 (tolL gs = none∧e = .returned (.tuple #[.slice none 0 0,.bool false])∧Below w.heap.size w w')
theorem tol_len:∀ {gs:List (List Ev)} {ts:List Cm},tolL gs = some ts→ts.length = gs.length
 | [],ts,h=>by rw [tolL] at h; cases h; rfl
 | [] :: _,ts,h=>by rw [tolL] at h; cases h
 | (e :: _) :: gs,ts,h=>by
  rw [tolL] at h
  split at h
  ·cases N:tolL gs with
   | none=>rw [N] at h; cases h
   | some us=>rw [N] at h; cases h; simpa using tol_len N
  ·cases h
theorem tol_size:∀ {gs:List (List Ev)} {ts:List Cm} {m:Nat},tolL gs = some ts→(∀ g ∈ gs,∀ e ∈ g,e.cmd.g.size ≤ m)→∀ c ∈ ts,c.g.size ≤ m
 | [],ts,m,h,_,c,hc=>by rw [tolL] at h; cases h; cases hc
 | [] :: _,ts,m,h,_,_,_=>by rw [tolL] at h; cases h
 | (e :: es) :: gs,ts,m,h,hm,c,hc=>by
  rw [tolL] at h
  split at h
  ·cases N:tolL gs with
   | none=>rw [N] at h; cases h
   | some us =>
    rw [N] at h
    cases h
    rcases List.mem_cons.1 hc with rfl | hc
    ·have h3:=hm (e :: es) (by simp) e (by simp)
     have hz:(⟨#[]⟩:ByteArray).size ≤ m:=Nat.zero_le _
     unfold aY
     repeat' split
     all_goals first | exact h3 | exact hz
    ·exact tol_size N (fun g hg=>hm g (by simp [hg])) c hc
  ·cases h
set_option maxRecDepth 100000 in
set_option maxHeartbeats 1600000 in
theorem toldCmds_any (vg:Value) (gs:List (List Ev)) (w:World) (hr:RdG w vg gs) (hl:gs.length ≤ 4096) :
  Calls Tryz.prog 45 #[vg] w (TolR w gs):=by
 obtain ⟨i0,hi,uF,uI,uT⟩:=info_parts Tryz.infoCmdD
 obtain ⟨ag,cg,rfl,-,hca⟩:=hr
 have xr:∀ (k:Nat) (es:List Ev),gs[k]? = some es→∃ b off ga gc,ag = some ⟨b,off,none⟩∧b < w.heap.size∧w.cell? ⟨b,off + k,none⟩ = some (.slice ga es.length gc)∧RdR Ev.vs 14 w (.slice ga es.length gc) es:=by
  intro k es hk
  obtain ⟨b,off,Q,N,h3⟩:=hca (by intro h; rw [h] at hk; simp at hk)
  obtain ⟨g,h4,h5⟩:=h3 k es hk
  obtain ⟨ga,gc,rfl,_⟩:=id h5
  exact ⟨b,off,ga,gc,Q,N,h4,h5⟩
 have HC:=hide xr
 clear xr hca
 have hsf:=sfl
 go_enter Tryz.func45,Tryz.ntmps45
 go_wp2_with fail
 go_loopw [4,11] (fun ov iv wr=>∃ (cs:List Cm) (k:Nat),k ≤ gs.length∧iv = .int .i64 k∧cs.length = k∧Hid (tolL gs = (tolL (gs.drop k)).map (cs ++ ·))∧wr.ownsRow w.heap.size 43 8 ov cs.length (cs.flatMap Cm.vs)∧Below w.heap.size w wr) (fun _ iv _=>gs.length - (intOf iv).toNat)
 case atStart=>exact ⟨[],0,Nat.zero_le _,rfl,rfl,by simp [Hid],World.ownsRow_nil _ _ _ _,Below.refl _ _⟩
 case round =>
  obtain ⟨cs,k,hk,rfl,pf,hto,xI,xm⟩:=hrel
  have oW:=hide xI
  have HB:=hide xm
  have HCK:=hide pf
  obtain ⟨ao,co,rfl⟩:=cK xI
  clear xI xm
  by_cases xL:k < gs.length
  ·obtain ⟨es,uS⟩:∃ es,gs[k]? = some es:=⟨_,yI xL⟩
   obtain ⟨b,off,ga,gc,rfl,X,xp,pQ⟩:=U HC k es uS
   have g0:=((U HB).cell (p:=⟨b,off + k,none⟩) X).trans xp
   have uy:(k:Int) < gs.length:=by omega
   have jf:Hid (tolL gs = (tolL (es :: gs.drop (k + 1))).map (cs ++ ·)):=by
    have:=U hto
    rw [dropX uS] at this
    exact this
   clear hto xp uS
   cases es with
   | nil =>
    have HN:Hid (tolL gs = none):=by have:=U jf; rw [tolL] at this; exact this
    simp only [List.length_nil] at g0
    clear pf
    go_wp2_with fail
    go_returns
    exact .inr ⟨U HN,rfl,U HB⟩
   | cons x xs =>
    obtain ⟨eb,eo,rfl,hxr⟩:∃ eb eo,ga = some ⟨eb,eo,none⟩∧wr.rangeAt eb (eo + 0 * 14) x.vs:=by
     obtain ⟨a1,c1,e1,-,Q⟩:=pQ
     simp only [Value.slice.injEq,true_and] at e1
     obtain ⟨b,off,N,kH,h3⟩:=Q (by simp)
     exact ⟨b,off,e1.1.trans N,zb (h3 0 x rfl) (U HB) kH⟩
    obtain ⟨g0',g1',g2',g3',g4',g5',g6',g7',g8',g9',g10',g11',g12',g13'⟩:=cw hxr
    simp only [Nat.zero_mul,Nat.add_zero] at g0' g1' g2' g3' g4' g5' g6' g7' g8' g9' g10' g11' g12' g13'
    have hx0:((x :: xs).length:Int) ≠ 0:=by simp only [List.length_cons]; omega
    have hx1:(0:Int) < ((x :: xs).length:Nat):=by simp only [List.length_cons]; omega
    generalize hln:(x :: xs).length = ln at g0 hx0 hx1
    have hlb:((ln:Int) == 0) = false:=by simpa using hx0
    have HTO2:Hid (tolL gs = (if dg x.kind = true then (tolL (gs.drop (k + 1))).map (aY x :: ·) else none).map (cs ++ ·)):=by have:=U jf; rw [tolL] at this; exact this
    clear pQ hxr jf hln hx0 pf
    go_wp2_with fail
    refine (toldCmd_all x wr).mono ?_
    rintro e w3 ⟨rfl,um⟩
    have xQ:=hide ((U HB).trans (um.mono (U HB).size))
    have qA:=hide (own_keep (U oW) um)
    generalize aY x = c at HTO2 ⊢
    obtain ⟨ck,c1,ct,cl,cq,ci,cp,cgg⟩:=c
    unfold cmV
    simp only
    clear um g0' g1' g2' g3' g4' g5' g6' g7' g8' g9' g10' g11' g12' g13' g0
    cases qr:dg x.kind
    ·have HN:Hid (tolL gs = none):=by have:=U HTO2; rw [qr,if_neg (by decide)] at this; exact this
     have qm:Hid (Below w.heap.size w (w3.alloc (Obj.cells #[.int .i64 ck,.int .i64 c1,.int .i64 ct,.int .i64 cl,.int .i64 cq,.int .i64 ci,.float .f64 cp,.string cgg] 43))):=(U xQ).alloc (U xQ).size _
     go_wp2_with fail
     go_returns
     exact .inr ⟨U HN,rfl,U qm⟩
    ·have HN:Hid (tolL gs = (tolL (gs.drop (k + 1))).map (fun r=>(cs ++ [⟨ck,c1,ct,cl,cq,ci,cp,cgg⟩]) ++ r)):=by
      have:=U HTO2
      rw [qr,if_pos rfl,Option.map_map] at this
      refine this.trans ?_
      cases tolL (gs.drop (k + 1)) <;> simp
     have pl:(w3.alloc (Obj.cells #[.int .i64 ck,.int .i64 c1,.int .i64 ct,.int .i64 cl,.int .i64 cq,.int .i64 ci,.float .f64 cp,.string cgg] 43)).heap.size = w3.heap.size + 1:=zh _ _
     have HXA:=hide (bD w3 [.int .i64 ck,.int .i64 c1,.int .i64 ct,.int .i64 cl,.int .i64 cq,.int .i64 ci,.float .f64 cp,.string cgg] 43)
     have kD:=hide ((U qA).alloc (Obj.cells #[.int .i64 ck,.int .i64 c1,.int .i64 ct,.int .i64 cl,.int .i64 cq,.int .i64 ci,.float .f64 cp,.string cgg] 43))
     have b0:=zq (U HXA) 0 rfl
     have b1:=zq (U HXA) 1 rfl
     have b2:=zq (U HXA) 2 rfl
     have b3:=zq (U HXA) 3 rfl
     have b4:=zq (U HXA) 4 rfl
     have b5:=zq (U HXA) 5 rfl
     have b6:=zq (U HXA) 6 rfl
     have b7:=zq (U HXA) 7 rfl
     have jd:w.heap.size ≤ w3.heap.size:=(U xQ).size
     have qk:cs.length ≤ 4096:=by have:=U HCK; omega
     go_wp2_with (at_builtin; go_must (refine wpList_append_own _ rfl _ _ 23 rfl w.heap.size 43 i0 _ 8 72 Tryz.underlying23 hi uF uI uT rfl (by decide) _ cs.length (cs.flatMap Cm.vs) rfl ((U kD).alloc _) ⟨w3.heap.size + 1,0,none⟩ 1 1 (Cm.vs ⟨ck,c1,ct,cl,cq,ci,cp,cgg⟩) rfl rfl (cellsJ pl _ _) (by simp [Value.oneCell',Cm.vs]) (by unfold maxLen; omega) (by omega) (by rw [zh,pl]; omega) ?_); intro v4 w4 qF hg4 _)
     go_roundw
     case rel =>
      refine ⟨cs ++ [⟨ck,c1,ct,cl,cq,ci,cp,cgg⟩],k + 1,by omega,by go_num,by rw [yQ,U HCK]; rfl,HN,by simpa using qF,?_⟩
      exact (((U xQ).alloc jd _).alloc (by rw [pl]; omega) _).grown hg4 (by rw [zh,pl]; omega) (fun j R=>((U qA).lt j R).1)
     case measure=>simp [intOf]; omega
  ·have HN:Hid (tolL gs = some cs):=by
    have:=U hto
    rw [xb (by omega)] at this
    refine this.trans ?_
    simp [tolL]
   have uy:¬ ((k:Int) < gs.length):=by omega
   clear pf
   go_wp2_with fail
   go_returns
   exact .inl ⟨cs,_,U HN,rfl,U oW,U HB⟩
end Go.Proofs.YtbakanofkghmiaaGreat
