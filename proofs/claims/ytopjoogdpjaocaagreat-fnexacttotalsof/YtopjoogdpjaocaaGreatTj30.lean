/-
  A command drawn out of the source, raw: proved by walking the method.
-/
import Derived.Test.YtopjoogdpjaocaaGreatTj29
set_option linter.unusedVariables false
set_option maxHeartbeats 6400000
set_option maxRecDepth 100000
namespace Go.Proofs.YtopjoogdpjaocaaGreat
open Go.RowKit



theorem Tryz.infoCmdD:(Tryz.prog.info? 39).map (fun i=>(i.zero,i.size,i.bytes)) = some (some (.agg #[.int .i64 0,.int .i64 0,.int .i64 0,.int .i64 0,.int .i64 0,.int .i64 0,.float .f64 0,.string ⟨#[]⟩]),8,72):=by kernel_rfl
theorem cells_srcD (w:World) (cs:List Value) (t:TypeId) (j:Nat) (u:Value) (h:cs[j]? = some u):(w.alloc (Obj.cells cs.toArray t)).cell? ((⟨w.heap.size,0,none⟩:Addr).add j) = some u:=by
 rw [Addr.add_mid,cell_of_row _ w.heap.size (0 + j) cs.toArray t (0,0) (heap_alloc_new w _)]
 simpa using h
theorem zbC {W:World} {B e z n:Nat} {v:Value} {xs:List Value} (h:W.ownsRow B e z v n xs):∃ a cap,v = .slice a n cap:=by
 rcases h.2 with ⟨h1,h2⟩ | ⟨g,cap,cur,h1,_⟩
 ·exact ⟨none,0,by rw [h1,h2]⟩
 ·exact ⟨_,_,h1⟩
theorem eqGdS (a b:Ev) (W:World):(eqGuard .eql 110 (.tmp 6) (.tmp 8) (vlV a) (vlV b)).run Tryz.prog W = .ok () W:=by
 unfold vlV
 go_simp
def SV (a b:Ev):Nat→Value→Prop
 | 0,v=>v = evV a
 | 1,v=>v = vlV a
 | 2,v=>v = evV b
 | 3,v=>v = vlV b
 | 4,v=>v = .bool (zbr a b)
 | 5,v=>v = .bool (zbr a b)
 | _,_=>True
set_option maxRecDepth 100000 in
set_option maxHeartbeats 1600000 in
theorem implSameE_any (a b:Ev) (w:World) :
  Calls Tryz.prog 30 #[evV a,evV b] w fun e w'=>e = .returned (.bool (zbr a b))∧Below w.heap.size w w':=by
 have hs1:(w.alloc (Obj.cells a.vs.toArray 43)).heap.size = w.heap.size + 1:=ze _ _
 have hs2:((w.alloc (Obj.cells a.vs.toArray 43)).alloc (Obj.cells b.vs.toArray 43)).heap.size = w.heap.size + 1 + 1:=by rw [ze,hs1]
 have r0:=zb (zaS w a.vs 43) (C:=w.heap.size + 1) ((Below.refl _ _).alloc (by rw [hs1]; omega) (Obj.cells b.vs.toArray 43)) (by omega)
 have r1:=zaS (w.alloc (Obj.cells a.vs.toArray 43)) b.vs 43
 rw [hs1] at r1
 have HB0:Hid (Below w.heap.size w ((w.alloc (Obj.cells a.vs.toArray 43)).alloc (Obj.cells b.vs.toArray 43))):=((Below.refl _ _).alloc (Nat.le_refl _) _).alloc (by rw [hs1]; omega) _
 have HX:Hid (_∧_):=⟨r0,r1⟩
 have HS2:=hide hs2
 clear r0 r1 hs1 hs2
 have hga:=eqGdS a b
 have hva:=fun W=>eqVlE a b W
 unfold evV
 go_enter Tryz.func30,Tryz.ntmps30
 go_wp2_with fail
 unfold Ev.vs at HB0 HX HS2
 generalize hW:((w.alloc (Obj.cells (List.toArray [.int .i64 a.kind,.int .i64 a.cmd.k,.int .i64 a.cmd.s,.int .i64 a.cmd.t,.int .i64 a.cmd.l,.int .i64 a.cmd.q,.int .i64 a.cmd.i,.float .f64 a.cmd.p,.string a.cmd.g,.int .i64 a.id,.int .i64 a.other,.int .i64 a.qty,.int .i64 a.price,.int .i64 a.reason]) 43)).alloc (Obj.cells (List.toArray [.int .i64 b.kind,.int .i64 b.cmd.k,.int .i64 b.cmd.s,.int .i64 b.cmd.t,.int .i64 b.cmd.l,.int .i64 b.cmd.q,.int .i64 b.cmd.i,.float .f64 b.cmd.p,.string b.cmd.g,.int .i64 b.id,.int .i64 b.other,.int .i64 b.qty,.int .i64 b.price,.int .i64 b.reason]) 43)) = W at HB0 HX HS2
 refine zay (RGrow W (fun f=>{ tmps:=#[evV a,evV b,.pointer (some ⟨w.heap.size,0,none⟩),.pointer (some ⟨w.heap.size + 1,0,none⟩),f 5,f 0,f 1,f 2,f 3,f 4],defers:=[] }) (SV a b)) (by kernel_rfl) ?_ ?_ ?_
 ·refine ⟨upd (fun _=>undef) 5 (.bool false),rfl,?_,fun j hj=>by rw [List.getElem?_replicate] at hj; split at hj <;> simp at hj⟩
  rw [← hW]
  exact ⟨rfl,rfl,rfl,Nat.le_refl _,fun _ _=>rfl⟩
 ·rintro x A V ⟨f,rfl,hbel,hC⟩ hx hrd
  have hall7:=zab hrd hx (acyc _ (by kernel_rfl)) 5 (by simp)
  have e7:f 5 = .bool (zbr a b):=hC 5 hall7
  simp only [e7]
  have HBV:=hide hbel
  clear hC hx hrd hall7 e7 hbel hga hva
  go_wp2_with fail
  go_ret
  exact ⟨rfl,(za HB0).trans ((za HBV).mono (za HB0).size)⟩
 ·rintro x A V i o ⟨f,rfl,hbel,hC⟩ hx ho hxi hall
  have HBV:=hide hbel
  have HC:=hide hC
  have hw0:w.heap.size < W.heap.size:=by rw [za HS2]; omega
  have hw1:w.heap.size + 1 < W.heap.size:=by rw [za HS2]; omega
  match i,ho with
  | 0,ho =>
   obtain rfl:=Option.some.inj ho
   obtain ⟨g0,g1,g2,g3,g4,g5,g6,g7,g8,g9,g10,g11,g12,g13⟩:=zal (e:=a) (zb (za HX).1 hbel hw0)
   simp only [Nat.zero_add] at g0 g1 g2 g3 g4 g5 g6 g7 g8 g9 g10 g11 g12 g13
   clear hall hC hbel hga hva
   rw [if_pos (by rfl)]
   unfold Oper.wp
   go_simp
   exact ⟨upd f 0 (evV a),by simp [upd,evV],za HBV,zv (za HC) rfl⟩
  | 1,ho =>
   obtain rfl:=Option.some.inj ho
   have g1:f 0 = evV a:=hC 0 (hall ⟨0,.data⟩ (by simp) rfl)
   clear hall hC hbel hga hva
   rw [if_pos (by rfl)]
   unfold Oper.wp
   go_simp
   refine (zbN a V).mono ?_
   rintro e w4 ⟨rfl,hb4⟩
   exact ⟨upd f 1 (vlV a),by simp [upd,g1],(za HBV).trans (hb4.mono (za HBV).size),zv (za HC) rfl⟩
  | 2,ho =>
   obtain rfl:=Option.some.inj ho
   obtain ⟨g0,g1,g2,g3,g4,g5,g6,g7,g8,g9,g10,g11,g12,g13⟩:=zal (e:=b) (zb (za HX).2 hbel hw1)
   simp only [Nat.zero_add] at g0 g1 g2 g3 g4 g5 g6 g7 g8 g9 g10 g11 g12 g13
   clear hall hC hbel hga hva
   rw [if_pos (by rfl)]
   unfold Oper.wp
   go_simp
   exact ⟨upd f 2 (evV b),by simp [upd,evV],za HBV,zv (za HC) rfl⟩
  | 3,ho =>
   obtain rfl:=Option.some.inj ho
   have g1:f 2 = evV b:=hC 2 (hall ⟨2,.data⟩ (by simp) rfl)
   clear hall hC hbel hga hva
   rw [if_pos (by rfl)]
   unfold Oper.wp
   go_simp
   refine (zbN b V).mono ?_
   rintro e w4 ⟨rfl,hb4⟩
   exact ⟨upd f 3 (vlV b),by simp [upd,g1],(za HBV).trans (hb4.mono (za HBV).size),zv (za HC) rfl⟩
  | 4,ho =>
   obtain rfl:=Option.some.inj ho
   have g2:f 1 = vlV a:=hC 1 (hall ⟨1,.data⟩ (by simp) rfl)
   have g5:f 3 = vlV b:=hC 3 (hall ⟨3,.data⟩ (by simp) rfl)
   have he:=hva V
   have hg:=hga V
   clear hall hC hbel hva hga
   rw [if_pos (by rfl)]
   unfold Oper.wp
   go_simp
   exact ⟨upd f 4 (.bool (zbr a b)),by simp [upd,g2,g5],za HBV,zv (za HC) rfl⟩
  | 5,ho =>
   obtain rfl:=Option.some.inj ho
   have g6:f 4 = .bool (zbr a b):=hC 4 (hall ⟨4,.data⟩ (by simp) rfl)
   clear hall hC hbel hga hva
   rw [if_pos (by rfl)]
   unfold Oper.wp
   go_simp
   exact ⟨upd f 5 (.bool (zbr a b)),by simp [upd,g6],za HBV,zv (za HC) rfl⟩
  | n + 6,ho=>simp at ho
def esB:List Ev→List Ev→Bool
 | [],[]=>true
 | a :: xs,b :: ys=>zbr a b && esB xs ys
 | _,_=>false
def gsB:List (List Ev)→List (List Ev)→Bool
 | [],[]=>true
 | a :: xs,b :: ys=>esB a b && gsB xs ys
 | _,_=>false
theorem esB_len:∀ {a b:List Ev},a.length ≠ b.length→esB a b = false
 | [],[],h=>absurd rfl h
 | _ :: xs,_ :: ys,h=>by rw [esB,esB_len (a:=xs) (b:=ys) (fun e=>h (by simp [e]))]; simp
 | [],_ :: _,_=>rfl
 | _ :: _,[],_=>rfl
theorem gsB_len:∀ {a b:List (List Ev)},a.length ≠ b.length→gsB a b = false
 | [],[],h=>absurd rfl h
 | _ :: xs,_ :: ys,h=>by rw [gsB,gsB_len (a:=xs) (b:=ys) (fun e=>h (by simp [e]))]; simp
 | [],_ :: _,_=>rfl
 | _ :: _,[],_=>rfl
theorem dropX {α:Type} {l:List α} {k:Nat} {c:α} (h:l[k]? = some c):l.drop k = c :: l.drop (k + 1):=by
 obtain ⟨hlt,hc⟩:=List.getElem?_eq_some_iff.1 h
 rw [← hc]; exact List.drop_eq_getElem_cons hlt
set_option maxRecDepth 100000 in
set_option maxHeartbeats 1600000 in
theorem eqFuncE_any (va vb:Value) (l m:List Ev) (w:World) (ha:RdR Ev.vs 14 w va l) (hb:RdR Ev.vs 14 w vb m) :
  Calls Tryz.prog 29 #[va,vb,.func (.func 30) #[] #[]] w fun e w'=>e = .returned (.bool (esB l m))∧Below w.heap.size w w':=by
 obtain ⟨aa,ca,rfl,hl,hca⟩:=ha
 obtain ⟨ab,cb,rfl,hm,hcb⟩:=hb
 by_cases hne:l.length = m.length
 ·have hcell:∀ (k:Nat) (c:Ev),l[k]? = some c→∃ d b off b' off',m[k]? = some d∧aa = some ⟨b,off,none⟩∧ab = some ⟨b',off',none⟩∧b < w.heap.size∧b' < w.heap.size∧w.rangeAt b (off + k * 14) c.vs∧w.rangeAt b' (off' + k * 14) d.vs:=by
   intro k c hk
   have hlt:=(List.getElem?_eq_some_iff.1 hk).1
   obtain ⟨d,hd⟩:∃ d,m[k]? = some d:=⟨_,List.getElem?_eq_getElem (by omega)⟩
   obtain ⟨b,off,h1,h2,h3⟩:=hca (by intro h; rw [h] at hk; simp at hk)
   obtain ⟨b',off',h1',h2',h3'⟩:=hcb (by intro h; rw [h] at hd; simp at hd)
   exact ⟨d,b,off,b',off',hd,h1,h1',h2,h2',h3 k c hk,h3' k d hd⟩
  have HC:=hide hcell
  have hnb:((l.length:Int) != (m.length:Int)) = false:=by rw [hne]; simp
  have HNE:=hide hne
  clear hcell hca hcb hne
  go_enter Tryz.func29,Tryz.ntmps29
  go_wp2_with fail
  clear hnb
  go_loopw [17] (fun i wr=>∃ k:Nat,k ≤ l.length∧i = .int .i64 k∧Hid (esB l m = esB (l.drop k) (m.drop k))∧Below w.heap.size w wr) (fun i _=>l.length - (intOf i).toNat)
  case atStart=>exact ⟨0,Nat.zero_le _,rfl,rfl,Below.refl _ _⟩
  case round =>
   obtain ⟨k,hk,rfl,hes,hbel⟩:=hrel
   have HB:=hide hbel
   clear hbel
   by_cases hlt:k < l.length
   ·obtain ⟨c,hkc⟩:∃ c,l[k]? = some c:=⟨_,List.getElem?_eq_getElem hlt⟩
    obtain ⟨d,b,off,b',off',hkd,rfl,rfl,hb,hb',hcl,hcl'⟩:=za HC k c hkc
    obtain ⟨g0,g1,g2,g3,g4,g5,g6,g7,g8,g9,g10,g11,g12,g13⟩:=zal (zb hcl (za HB) hb)
    obtain ⟨e0,e1,e2,e3,e4,e5,e6,e7,e8,e9,e10,e11,e12,e13⟩:=zal (zb (zb hcl' (za HB) hb') ((Below.refl wr.heap.size wr).alloc (Nat.le_refl _) (Obj.cells #[.int .i64 c.kind,.int .i64 c.cmd.k,.int .i64 c.cmd.s,.int .i64 c.cmd.t,.int .i64 c.cmd.l,.int .i64 c.cmd.q,.int .i64 c.cmd.i,.float .f64 c.cmd.p,.string c.cmd.g,.int .i64 c.id,.int .i64 c.other,.int .i64 c.qty,.int .i64 c.price,.int .i64 c.reason] 43)) (Nat.lt_of_lt_of_le hb' (za HB).size))
    have hlt':(k:Int) < l.length:=by omega
    have hltm:(k:Int) < m.length:=by have:=za HNE; omega
    have HS:Hid (esB l m = (zbr c d && esB (l.drop (k + 1)) (m.drop (k + 1)))):=by
     have:=za hes
     rw [dropX hkc,dropX hkd] at this
     exact this
    clear hkc hkd hcl hcl' hb hb' hes
    have HB2:Hid (Below w.heap.size w ((wr.alloc (Obj.cells #[.int .i64 c.kind,.int .i64 c.cmd.k,.int .i64 c.cmd.s,.int .i64 c.cmd.t,.int .i64 c.cmd.l,.int .i64 c.cmd.q,.int .i64 c.cmd.i,.float .f64 c.cmd.p,.string c.cmd.g,.int .i64 c.id,.int .i64 c.other,.int .i64 c.qty,.int .i64 c.price,.int .i64 c.reason] 43)).alloc (Obj.cells #[.int .i64 d.kind,.int .i64 d.cmd.k,.int .i64 d.cmd.s,.int .i64 d.cmd.t,.int .i64 d.cmd.l,.int .i64 d.cmd.q,.int .i64 d.cmd.i,.float .f64 d.cmd.p,.string d.cmd.g,.int .i64 d.id,.int .i64 d.other,.int .i64 d.qty,.int .i64 d.price,.int .i64 d.reason] 43))):=((za HB).alloc (za HB).size _).alloc (Nat.le_trans (za HB).size (by simp)) _
    have hsf:=sfl
    go_wp2_with fail
    refine (implSameE_any c d _).mono ?_
    rintro e w3 ⟨rfl,hb3⟩
    have HB3:=hide ((za HB2).trans (hb3.mono (za HB2).size))
    clear hb3 HB2
    cases hs:zbr c d
    ·have HE:Hid (esB l m = false):=by have:=za HS; rw [hs,Bool.false_and] at this; exact this
     go_wp2_with fail
     go_ret
     exact ⟨zy (za HE).symm,za HB3⟩
    ·have HE:Hid (esB l m = esB (l.drop (k + 1)) (m.drop (k + 1))):=by have:=za HS; rw [hs,Bool.true_and] at this; exact this
     go_wp2_with fail
     go_roundw
     case rel=>exact ⟨k + 1,by omega,by go_num,za HE,za HB3⟩
     case measure=>simp [intOf]; omega
   ·have HE:Hid (esB l m = true):=by
     have:=za hes
     rw [List.drop_of_length_le (by omega),List.drop_of_length_le (by have:=za HNE; omega)] at this
     exact this
    go_wp2_with fail
    go_ret
    exact ⟨zy (za HE).symm,za HB⟩
 ·have hnb:((l.length:Int) != (m.length:Int)) = true:=by simpa using fun e=>hne (by omega)
  rw [esB_len hne]
  clear hne hca hcb
  go_enter Tryz.func29,Tryz.ntmps29
  go_wp2_with fail
  go_ret
  exact ⟨rfl,Below.refl _ _⟩
theorem sameGroup_any (va vb:Value) (l m:List Ev) (w:World) (ha:RdR Ev.vs 14 w va l) (hb:RdR Ev.vs 14 w vb m) :
  Calls Tryz.prog 19 #[va,vb] w fun e w'=>e = .returned (.bool (esB l m))∧Below w.heap.size w w':=by
 have HA:=hide ha
 have HB:=hide hb
 obtain ⟨aa,ca,rfl,-,-⟩:=ha
 obtain ⟨ab,cb,rfl,-,-⟩:=hb
 go_enter Tryz.func19,Tryz.ntmps19
 go_wp2_with fail
 refine (eqFuncE_any _ _ l m w (za HA) (za HB)).mono ?_
 rintro e w3 ⟨rfl,hb3⟩
 have HB3:=hide hb3
 clear hb3
 go_wp2_with fail
 go_ret
 exact ⟨rfl,za HB3⟩
set_option maxRecDepth 100000 in
set_option maxHeartbeats 1600000 in
theorem eqFuncG_any (va vb:Value) (l m:List (List Ev)) (w:World) (ha:RdG w va l) (hb:RdG w vb m) :
  Calls Tryz.prog 18 #[va,vb,.func (.func 19) #[] #[]] w fun e w'=>e = .returned (.bool (gsB l m))∧Below w.heap.size w w':=by
 obtain ⟨aa,ca,rfl,hl,hca⟩:=ha
 obtain ⟨ab,cb,rfl,hm,hcb⟩:=hb
 by_cases hne:l.length = m.length
 ·have hcell:∀ (k:Nat) (c:List Ev),l[k]? = some c→∃ d b off b' off' ga gc ga' gc',m[k]? = some d∧aa = some ⟨b,off,none⟩∧ab = some ⟨b',off',none⟩∧b < w.heap.size∧b' < w.heap.size∧w.cell? ⟨b,off + k,none⟩ = some (.slice ga c.length gc)∧w.cell? ⟨b',off' + k,none⟩ = some (.slice ga' d.length gc')∧RdR Ev.vs 14 w (.slice ga c.length gc) c∧RdR Ev.vs 14 w (.slice ga' d.length gc') d:=by
   intro k c hk
   have hlt:=(List.getElem?_eq_some_iff.1 hk).1
   obtain ⟨d,hd⟩:∃ d,m[k]? = some d:=⟨_,List.getElem?_eq_getElem (by omega)⟩
   obtain ⟨b,off,h1,h2,h3⟩:=hca (by intro h; rw [h] at hk; simp at hk)
   obtain ⟨b',off',h1',h2',h3'⟩:=hcb (by intro h; rw [h] at hd; simp at hd)
   obtain ⟨g,h4,h5⟩:=h3 k c hk
   obtain ⟨g',h4',h5'⟩:=h3' k d hd
   obtain ⟨ga,gc,rfl,_⟩:=id h5
   obtain ⟨ga',gc',rfl,_⟩:=id h5'
   exact ⟨d,b,off,b',off',ga,gc,ga',gc',hd,h1,h1',h2,h2',h4,h4',h5,h5'⟩
  have HC:=hide hcell
  have hnb:((l.length:Int) != (m.length:Int)) = false:=by rw [hne]; simp
  have HNE:=hide hne
  clear hcell hca hcb hne
  go_enter Tryz.func18,Tryz.ntmps18
  go_wp2_with fail
  clear hnb
  go_loopw [17] (fun i wr=>∃ k:Nat,k ≤ l.length∧i = .int .i64 k∧Hid (gsB l m = gsB (l.drop k) (m.drop k))∧Below w.heap.size w wr) (fun i _=>l.length - (intOf i).toNat)
  case atStart=>exact ⟨0,Nat.zero_le _,rfl,rfl,Below.refl _ _⟩
  case round =>
   obtain ⟨k,hk,rfl,hes,hbel⟩:=hrel
   have HB:=hide hbel
   clear hbel
   by_cases hlt:k < l.length
   ·obtain ⟨c,hkc⟩:∃ c,l[k]? = some c:=⟨_,List.getElem?_eq_getElem hlt⟩
    obtain ⟨d,b,off,b',off',ga,gc,ga',gc',hkd,rfl,rfl,hb,hb',hcl,hcl',hr,hr'⟩:=za HC k c hkc
    have g0:=((za HB).cell (p:=⟨b,off + k,none⟩) hb).trans hcl
    have g1:=((za HB).cell (p:=⟨b',off' + k,none⟩) hb').trans hcl'
    have HRA:=hide (zl hr (za HB) (Nat.le_refl _))
    have HRB:=hide (zl hr' (za HB) (Nat.le_refl _))
    have hlt':(k:Int) < l.length:=by omega
    have hltm:(k:Int) < m.length:=by have:=za HNE; omega
    have HS:Hid (gsB l m = (esB c d && gsB (l.drop (k + 1)) (m.drop (k + 1)))):=by
     have:=za hes
     rw [dropX hkc,dropX hkd] at this
     exact this
    clear hkc hkd hcl hcl' hb hb' hes hr hr'
    go_wp2_with fail
    refine (sameGroup_any _ _ c d _ (za HRA) (za HRB)).mono ?_
    rintro e w3 ⟨rfl,hb3⟩
    have HB3:=hide ((za HB).trans (hb3.mono (za HB).size))
    clear hb3
    cases hs:esB c d
    ·have HE:Hid (gsB l m = false):=by have:=za HS; rw [hs,Bool.false_and] at this; exact this
     go_wp2_with fail
     go_ret
     exact ⟨zy (za HE).symm,za HB3⟩
    ·have HE:Hid (gsB l m = gsB (l.drop (k + 1)) (m.drop (k + 1))):=by have:=za HS; rw [hs,Bool.true_and] at this; exact this
     go_wp2_with fail
     go_roundw
     case rel=>exact ⟨k + 1,by omega,by go_num,za HE,za HB3⟩
     case measure=>simp [intOf]; omega
   ·have HE:Hid (gsB l m = true):=by
     have:=za hes
     rw [List.drop_of_length_le (by omega),List.drop_of_length_le (by have:=za HNE; omega)] at this
     exact this
    go_wp2_with fail
    go_ret
    exact ⟨zy (za HE).symm,za HB⟩
 ·have hnb:((l.length:Int) != (m.length:Int)) = true:=by simpa using fun e=>hne (by omega)
  rw [gsB_len hne]
  clear hne hca hcb
  go_enter Tryz.func18,Tryz.ntmps18
  go_wp2_with fail
  go_ret
  exact ⟨rfl,Below.refl _ _⟩
theorem cellsJ {W:World} {s:Nat} (hs:W.heap.size = s) (cs:List Value) (t:TypeId) (j:Nat) (u:Value) (h:cs[j]? = some u):(W.alloc (Obj.cells cs.toArray t)).cell? ((⟨s,0,none⟩:Addr).add j) = some u:=by
 subst hs; exact cells_srcD W cs t j u h
theorem own_keep {w w':World} {base e z n:Nat} {v:Value} {xs:List Value} (h:w.ownsRow base e z v n xs) (hb:Below w.heap.size w w'):w'.ownsRow base e z v n xs :=
 h.kept (zaa (G:=none) hb (Nat.le_refl _)) (by cases hv:v.ownBlock with | none=>exact .inl rfl | some k=>exact .inr (by simp))
def TolR (w:World) (gs:List (List Ev)) (e:Ending) (w':World):Prop :=
 (∃ ts v,tolL gs = some ts∧e = .returned (.tuple #[v,.bool true])∧w'.ownsRow w.heap.size 39 8 v ts.length (ts.flatMap Cm.vs)∧Below w.heap.size w w') ∨
 (tolL gs = none∧e = .returned (.tuple #[.slice none 0 0,.bool false])∧Below w.heap.size w w')
theorem tol_len:∀ {gs:List (List Ev)} {ts:List Cm},tolL gs = some ts→ts.length = gs.length
 | [],ts,h=>by rw [tolL] at h; cases h; rfl
 | [] :: _,ts,h=>by rw [tolL] at h; cases h
 | (e :: _) :: gs,ts,h=>by
  rw [tolL] at h
  split at h
  ·cases h2:tolL gs with
   | none=>rw [h2] at h; cases h
   | some us=>rw [h2] at h; cases h; simpa using tol_len h2
  ·cases h
theorem tol_size:∀ {gs:List (List Ev)} {ts:List Cm} {m:Nat},tolL gs = some ts→(∀ g ∈ gs,∀ e ∈ g,e.cmd.g.size ≤ m)→∀ c ∈ ts,c.g.size ≤ m
 | [],ts,m,h,_,c,hc=>by rw [tolL] at h; cases h; cases hc
 | [] :: _,ts,m,h,_,_,_=>by rw [tolL] at h; cases h
 | (e :: es) :: gs,ts,m,h,hm,c,hc=>by
  rw [tolL] at h
  split at h
  ·cases h2:tolL gs with
   | none=>rw [h2] at h; cases h
   | some us =>
    rw [h2] at h
    cases h
    rcases List.mem_cons.1 hc with rfl | hc
    ·have h3:=hm (e :: es) (by simp) e (by simp)
     have hz:(⟨#[]⟩:ByteArray).size ≤ m:=Nat.zero_le _
     unfold toldE
     repeat' split
     all_goals first | exact h3 | exact hz
    ·exact tol_size h2 (fun g hg=>hm g (by simp [hg])) c hc
  ·cases h
set_option maxRecDepth 100000 in
set_option maxHeartbeats 1600000 in
theorem toldCmds_any (vg:Value) (gs:List (List Ev)) (w:World) (hr:RdG w vg gs) (hl:gs.length ≤ 4096) :
  Calls Tryz.prog 16 #[vg] w (TolR w gs):=by
 obtain ⟨i0,hi,hz0,hz1,hz2⟩:=info_parts Tryz.infoCmdD
 obtain ⟨ag,cg,rfl,-,hca⟩:=hr
 have hcell:∀ (k:Nat) (es:List Ev),gs[k]? = some es→∃ b off ga gc,ag = some ⟨b,off,none⟩∧b < w.heap.size∧w.cell? ⟨b,off + k,none⟩ = some (.slice ga es.length gc)∧RdR Ev.vs 14 w (.slice ga es.length gc) es:=by
  intro k es hk
  obtain ⟨b,off,h1,h2,h3⟩:=hca (by intro h; rw [h] at hk; simp at hk)
  obtain ⟨g,h4,h5⟩:=h3 k es hk
  obtain ⟨ga,gc,rfl,_⟩:=id h5
  exact ⟨b,off,ga,gc,h1,h2,h4,h5⟩
 have HC:=hide hcell
 clear hcell hca
 have hsf:=sfl
 go_enter Tryz.func16,Tryz.ntmps16
 go_wp2_with fail
 go_loopw [4,11] (fun ov iv wr=>∃ (cs:List Cm) (k:Nat),k ≤ gs.length∧iv = .int .i64 k∧cs.length = k∧Hid (tolL gs = (tolL (gs.drop k)).map (cs ++ ·))∧wr.ownsRow w.heap.size 39 8 ov cs.length (cs.flatMap Cm.vs)∧Below w.heap.size w wr) (fun _ iv _=>gs.length - (intOf iv).toNat)
 case atStart=>exact ⟨[],0,Nat.zero_le _,rfl,rfl,by simp [Hid],World.ownsRow_nil _ _ _ _,Below.refl _ _⟩
 case round =>
  obtain ⟨cs,k,hk,rfl,hck,hto,hown,hbel⟩:=hrel
  have HOW:=hide hown
  have HB:=hide hbel
  have HCK:=hide hck
  obtain ⟨ao,co,rfl⟩:=zbC hown
  clear hown hbel
  by_cases hlt:k < gs.length
  ·obtain ⟨es,hes⟩:∃ es,gs[k]? = some es:=⟨_,List.getElem?_eq_getElem hlt⟩
   obtain ⟨b,off,ga,gc,rfl,hb,hcl,hre⟩:=za HC k es hes
   have g0:=((za HB).cell (p:=⟨b,off + k,none⟩) hb).trans hcl
   have hlt':(k:Int) < gs.length:=by omega
   have HTO:Hid (tolL gs = (tolL (es :: gs.drop (k + 1))).map (cs ++ ·)):=by
    have:=za hto
    rw [dropX hes] at this
    exact this
   clear hto hcl hes
   cases es with
   | nil =>
    have HN:Hid (tolL gs = none):=by have:=za HTO; rw [tolL] at this; exact this
    simp only [List.length_nil] at g0
    clear hck
    go_wp2_with fail
    go_returns
    exact .inr ⟨za HN,rfl,za HB⟩
   | cons x xs =>
    obtain ⟨eb,eo,rfl,hxr⟩:∃ eb eo,ga = some ⟨eb,eo,none⟩∧wr.rangeAt eb (eo + 0 * 14) x.vs:=by
     obtain ⟨a1,c1,e1,-,h1⟩:=hre
     simp only [Value.slice.injEq,true_and] at e1
     obtain ⟨b,off,h2,h2',h3⟩:=h1 (by simp)
     exact ⟨b,off,e1.1.trans h2,zb (h3 0 x rfl) (za HB) h2'⟩
    obtain ⟨g0',g1',g2',g3',g4',g5',g6',g7',g8',g9',g10',g11',g12',g13'⟩:=zal hxr
    simp only [Nat.zero_mul,Nat.add_zero] at g0' g1' g2' g3' g4' g5' g6' g7' g8' g9' g10' g11' g12' g13'
    have hx0:((x :: xs).length:Int) ≠ 0:=by simp only [List.length_cons]; omega
    have hx1:(0:Int) < ((x :: xs).length:Nat):=by simp only [List.length_cons]; omega
    generalize hln:(x :: xs).length = ln at g0 hx0 hx1
    have hlb:((ln:Int) == 0) = false:=by simpa using hx0
    have HTO2:Hid (tolL gs = (if zbI x.kind = true then (tolL (gs.drop (k + 1))).map (toldE x :: ·) else none).map (cs ++ ·)):=by have:=za HTO; rw [tolL] at this; exact this
    clear hre hxr HTO hln hx0 hck
    go_wp2_with fail
    refine (toldCmd_all x wr).mono ?_
    rintro e w3 ⟨rfl,hb3⟩
    have HB3:=hide ((za HB).trans (hb3.mono (za HB).size))
    have HO3:=hide (own_keep (za HOW) hb3)
    generalize toldE x = c at HTO2 ⊢
    obtain ⟨ck,c1,ct,cl,cq,ci,cp,cgg⟩:=c
    unfold cmV
    simp only
    clear hb3 g0' g1' g2' g3' g4' g5' g6' g7' g8' g9' g10' g11' g12' g13' g0
    cases hst:zbI x.kind
    ·have HN:Hid (tolL gs = none):=by have:=za HTO2; rw [hst,if_neg (by decide)] at this; exact this
     have HBA:Hid (Below w.heap.size w (w3.alloc (Obj.cells #[.int .i64 ck,.int .i64 c1,.int .i64 ct,.int .i64 cl,.int .i64 cq,.int .i64 ci,.float .f64 cp,.string cgg] 39))):=(za HB3).alloc (za HB3).size _
     go_wp2_with fail
     go_returns
     exact .inr ⟨za HN,rfl,za HBA⟩
    ·have HN:Hid (tolL gs = (tolL (gs.drop (k + 1))).map (fun r=>(cs ++ [⟨ck,c1,ct,cl,cq,ci,cp,cgg⟩]) ++ r)):=by
      have:=za HTO2
      rw [hst,if_pos rfl,Option.map_map] at this
      refine this.trans ?_
      cases tolL (gs.drop (k + 1)) <;> simp
     have hs4:(w3.alloc (Obj.cells #[.int .i64 ck,.int .i64 c1,.int .i64 ct,.int .i64 cl,.int .i64 cq,.int .i64 ci,.float .f64 cp,.string cgg] 39)).heap.size = w3.heap.size + 1:=ze _ _
     have HXA:=hide (zaK w3 [.int .i64 ck,.int .i64 c1,.int .i64 ct,.int .i64 cl,.int .i64 cq,.int .i64 ci,.float .f64 cp,.string cgg] 39)
     have HO4:=hide ((za HO3).alloc (Obj.cells #[.int .i64 ck,.int .i64 c1,.int .i64 ct,.int .i64 cl,.int .i64 cq,.int .i64 ci,.float .f64 cp,.string cgg] 39))
     have b0:=zd (za HXA) 0 rfl
     have b1:=zd (za HXA) 1 rfl
     have b2:=zd (za HXA) 2 rfl
     have b3:=zd (za HXA) 3 rfl
     have b4:=zd (za HXA) 4 rfl
     have b5:=zd (za HXA) 5 rfl
     have b6:=zd (za HXA) 6 rfl
     have b7:=zd (za HXA) 7 rfl
     have hs3:w.heap.size ≤ w3.heap.size:=(za HB3).size
     have hcl':cs.length ≤ 4096:=by have:=za HCK; omega
     go_wp2_with (at_builtin; go_must (refine wpList_append_own _ rfl _ _ 35 rfl w.heap.size 39 i0 _ 8 72 Tryz.underlying35 hi hz0 hz1 hz2 rfl (by decide) _ cs.length (cs.flatMap Cm.vs) rfl ((za HO4).alloc _) ⟨w3.heap.size + 1,0,none⟩ 1 1 (Cm.vs ⟨ck,c1,ct,cl,cq,ci,cp,cgg⟩) rfl rfl (cellsJ hs4 _ _) (by simp [Value.oneCell',Cm.vs]) (by unfold maxLen; omega) (by omega) (by rw [ze,hs4]; omega) ?_); intro v4 w4 hown4 hg4 _)
     go_roundw
     case rel =>
      refine ⟨cs ++ [⟨ck,c1,ct,cl,cq,ci,cp,cgg⟩],k + 1,by omega,by go_num,by rw [List.length_append,za HCK]; rfl,HN,by simpa using hown4,?_⟩
      exact (((za HB3).alloc hs3 _).alloc (by rw [hs4]; omega) _).grown hg4 (by rw [ze,hs4]; omega) (fun j hj=>((za HO3).lt j hj).1)
     case measure=>simp [intOf]; omega
  ·have HN:Hid (tolL gs = some cs):=by
    have:=za hto
    rw [List.drop_of_length_le (by omega)] at this
    refine this.trans ?_
    simp [tolL]
   have hlt':¬ ((k:Int) < gs.length):=by omega
   clear hck
   go_wp2_with fail
   go_returns
   exact .inl ⟨cs,_,za HN,rfl,za HOW,za HB⟩
end Go.Proofs.YtopjoogdpjaocaaGreat
