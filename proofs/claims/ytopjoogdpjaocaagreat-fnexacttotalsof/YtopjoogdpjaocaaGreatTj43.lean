/-
  errors.As at the reader's own error type, proved by walking it: it answers true and lays the error into the target; and the code of a fault.
-/
import Derived.Test.YtopjoogdpjaocaaGreatTj42
import Derived.Laws.BytesString
import Derived.Deep.Slices
import Derived.ChangeArms
set_option linter.unusedVariables false
set_option maxHeartbeats 6400000
set_option maxRecDepth 100000
namespace Go.Proofs.YtopjoogdpjaocaaGreat
open Go.RowKit Go.Extern.Stop Go.Stop Go.Extern
set_option linter.unusedVariables false

end Go.Proofs.YtopjoogdpjaocaaGreat
namespace Go.Proofs.YtopjoogdpjaocaaGreat
open Go.RowKit Go.Extern.Stop Go.Stop Go.Extern
set_option linter.unusedVariables false

end Go.Proofs.YtopjoogdpjaocaaGreat
namespace Go.Proofs.YtopjoogdpjaocaaGreat
open Go.RowKit




structure RSr (wb:World) (R:Nat) (v:Value) (l:List Int) (k:Nat) (W:World):Prop where
 rd:Rd wb v l
 cap:CapOk v
 le:wb.heap.size ≤ R
 bel:Below wb.heap.size wb W
 r:Rdr R W v k
 kk:k ≤ l.length
 ll:l.length ≤ 65536
 bb:Bts l
theorem RSr.lt {wb:World} {R:Nat} {v:Value} {l:List Int} {k:Nat} {W:World} (h:RSr wb R v l k W):R < W.heap.size:=World.block_lt_of_cell? W _ h.r.1
theorem RSr.go {wb:World} {R:Nat} {v:Value} {l:List Int} {k n:Nat} {W W':World} (h:RSr wb R v l k W) (hg:W.grownBy W' (some R)) (hr:Rdr R W' v n) (hn:n ≤ l.length):RSr wb R v l n W' :=
 ⟨h.rd,h.cap,h.le,h.bel.trans (gr_below hg h.le h.bel.size),hr,hn,h.ll,h.bb⟩
theorem RSr.keep {wb:World} {R:Nat} {v:Value} {l:List Int} {k:Nat} {W W':World} (h:RSr wb R v l k W) (hb:Below wb.heap.size wb W') (hr:Rdr R W' v k):RSr wb R v l k W':=⟨h.rd,h.cap,h.le,hb,hr,h.kk,h.ll,h.bb⟩
theorem RSr.below {wb:World} {R C:Nat} {v:Value} {l:List Int} {k:Nat} {W W':World} (h:RSr wb R v l k W) (hb:Below C W W') (hC:R < C):RSr wb R v l k W' :=
 h.keep (h.bel.trans (hb.mono (Nat.le_of_lt (Nat.lt_of_le_of_lt h.le hC)))) (rdr_below h.r hb hC)
def Ev.put (e:Ev) (o:Nat) (x:Value):Ev:=match o,x with
 | 1,.int _ z=>{ e with cmd:={ e.cmd with k:=z } }
 | 2,.int _ z=>{ e with cmd:={ e.cmd with s:=z } }
 | 3,.int _ z=>{ e with cmd:={ e.cmd with t:=z } }
 | 4,.int _ z=>{ e with cmd:={ e.cmd with l:=z } }
 | 5,.int _ z=>{ e with cmd:={ e.cmd with q:=z } }
 | 6,.int _ z=>{ e with cmd:={ e.cmd with i:=z } }
 | 7,.float _ p=>{ e with cmd:={ e.cmd with p:=p } }
 | 8,.string s=>{ e with cmd:={ e.cmd with g:=s } }
 | 9,.int _ z=>{ e with id:=z }
 | 10,.int _ z=>{ e with other:=z }
 | 11,.int _ z=>{ e with qty:=z }
 | 12,.int _ z=>{ e with price:=z }
 | 13,.int _ z=>{ e with reason:=z }
 | _,_=>e
def EvO (o:Nat):Prop:=o = 7 ∨ o = 8 ∨ plcO o = true
theorem set14 (W:World) (b:Nat) (v0 v1 v2 v3 v4 v5 v6 v7 v8 v9 v10 v11 v12 v13:Value):((((((((((((((W.setCell ⟨b,0,none⟩ v0).setCell ⟨b,1,none⟩ v1).setCell ⟨b,2,none⟩ v2).setCell ⟨b,3,none⟩ v3).setCell ⟨b,4,none⟩ v4).setCell ⟨b,5,none⟩ v5).setCell ⟨b,6,none⟩ v6).setCell ⟨b,7,none⟩ v7).setCell ⟨b,8,none⟩ v8).setCell ⟨b,9,none⟩ v9).setCell ⟨b,10,none⟩ v10).setCell ⟨b,11,none⟩ v11).setCell ⟨b,12,none⟩ v12).setCell ⟨b,13,none⟩ v13) = W.setCells b 0 [v0,v1,v2,v3,v4,v5,v6,v7,v8,v9,v10,v11,v12,v13]:=by
 simp only [World.setCells]
theorem toCmd_any (c:Cm) (w:World) :
  Calls Tryz.prog 44 #[.agg #[.int .i64 c.k,.int .i64 c.s,.int .i64 c.t,.int .i64 c.l,.int .i64 c.q,.int .i64 c.i,.float .f64 c.p,.string c.g]] w fun e w' =>
   e = .returned (.agg #[.int .i64 c.k,.int .i64 c.s,.int .i64 c.t,.int .i64 c.l,.int .i64 c.q,.int .i64 c.i,.float .f64 c.p,.string c.g])∧Below w.heap.size w w':=by
 obtain ⟨k,s,t,l,q,i,p,g⟩:=c
 have hsf:=sfl
 simp only
 go_enter Tryz.func44,Tryz.ntmps44
 go_wp2_with fail
 go_returns
 refine ⟨rfl,?_⟩
 go_grown
end Go.Proofs.YtopjoogdpjaocaaGreat
namespace Go.Proofs.YtopjoogdpjaocaaGreat
open Go.RowKit Go.ChangeShapes Go.WideShapes Go.Deep
set_option linter.unusedVariables false

set_option maxHeartbeats 400000 in
theorem szCmd_any (c:Cm) (x:Int) (w:World) (h0:0 ≤ x) (h1:x ≤ 1073741824) (hg:c.g.size ≤ maxLen) :
  Calls Tryz.prog 32 #[.agg #[.int .i64 c.k,.int .i64 c.s,.int .i64 c.t,.int .i64 c.l,.int .i64 c.q,.int .i64 c.i,.float .f64 c.p,.string c.g],.int .i64 x] w fun e w' =>
   ∃ y:Int,e = .returned (.int .i64 y)∧-1 ≤ y∧y ≤ x∧Below w.heap.size w w':=by
 obtain ⟨k,s,t,l,q,i,p,g⟩:=c
 simp only at *
 unfold maxLen at hg
 by_cases h:x < g.size
 ·go_enter Tryz.func32,Tryz.ntmps32
  go_wp2_with fail
  go_ret
  exact ⟨_,rfl,by omega,by omega,by go_grown⟩
 ·go_enter Tryz.func32,Tryz.ntmps32
  go_wp2_with fail
  go_ret
  exact ⟨_,rfl,by omega,by omega,by go_grown⟩
structure Cm.ok (c:Cm):Prop where
 k:(Lit.int .i64 c.k).wf = true
 s:(Lit.int .i64 c.s).wf = true
 t:(Lit.int .i64 c.t).wf = true
 l:(Lit.int .i64 c.l).wf = true
 q:(Lit.int .i64 c.q).wf = true
 i:(Lit.int .i64 c.i).wf = true
 p:(Lit.float .f64 c.p).wf = true
 g:c.g.size ≤ maxLen
section
variable {H:Type} {enc:TypeId × Value→H} {w:World} {base:Nat} {spare:Nat→Bool} {held:Bool}

theorem trod_flt {P:Program} {t:TypeId} {k:FloatKind} {fuel:Nat} {cs:List Value} {x:DataW H × List MemPlace} (ht:P.underlying t = some (.float k)) (h:DataW.trod enc P w base spare held fuel t cs = some x) :
  ∃ n,cs = [.float k n]∧(Lit.float k n).wf = true:=by
 cases fuel with
 | zero=>simp [DataW.trod] at h
 | succ n =>
  unfold DataW.trod at h
  rw [ht] at h
  split at h <;> simp_all
theorem list8 {cs:List Value} (h:cs.length = 8):∃ v0 v1 v2 v3 v4 v5 v6 v7,cs = [v0,v1,v2,v3,v4,v5,v6,v7] :=
 match cs,h with
 | [v0,v1,v2,v3,v4,v5,v6,v7],_=>⟨v0,v1,v2,v3,v4,v5,v6,v7,rfl⟩
theorem cm_opened {fuel:Nat} {cs:List Value} {x:DataW H × List MemPlace} (h:DataW.trod enc Tryz.prog w base spare held fuel 60 cs = some x):∃ c:Cm,cs = c.vs∧c.ok:=by
 obtain ⟨xs,n,_,_,hlen,hxl,hf⟩:=DataW.trod_struct Tryz.underlying60 h
 have hl8:cs.length = 8:=hlen.trans (by kernel_rfl)
 have k3:Tryz.prog.cellsOf 3 = 1:=by kernel_rfl
 have k22:Tryz.prog.cellsOf 37 = 1:=by kernel_rfl
 have k9:Tryz.prog.cellsOf 9 = 1:=by kernel_rfl
 have hx:∀ i,i < 8→∃ y,xs[i]? = some y:=fun i hi=>⟨_,List.getElem?_eq_getElem (by rw [hxl]; exact hi)⟩
 obtain ⟨y0,e0⟩:=hx 0 (by omega)
 obtain ⟨y1,e1⟩:=hx 1 (by omega)
 obtain ⟨y2,e2⟩:=hx 2 (by omega)
 obtain ⟨y3,e3⟩:=hx 3 (by omega)
 obtain ⟨y4,e4⟩:=hx 4 (by omega)
 obtain ⟨y5,e5⟩:=hx 5 (by omega)
 obtain ⟨y6,e6⟩:=hx 6 (by omega)
 obtain ⟨y7,e7⟩:=hx 7 (by omega)
 have f0:DataW.trod enc Tryz.prog w base spare held n 3 ((cs.drop 0).take (Tryz.prog.cellsOf 3)) = some y0:=(hf 0 _ rfl).trans e0
 have f1:DataW.trod enc Tryz.prog w base spare held n 3 ((cs.drop 1).take (Tryz.prog.cellsOf 3)) = some y1:=(hf 1 _ rfl).trans e1
 have f2:DataW.trod enc Tryz.prog w base spare held n 3 ((cs.drop 2).take (Tryz.prog.cellsOf 3)) = some y2:=(hf 2 _ rfl).trans e2
 have f3:DataW.trod enc Tryz.prog w base spare held n 3 ((cs.drop 3).take (Tryz.prog.cellsOf 3)) = some y3:=(hf 3 _ rfl).trans e3
 have f4:DataW.trod enc Tryz.prog w base spare held n 3 ((cs.drop 4).take (Tryz.prog.cellsOf 3)) = some y4:=(hf 4 _ rfl).trans e4
 have f5:DataW.trod enc Tryz.prog w base spare held n 3 ((cs.drop 5).take (Tryz.prog.cellsOf 3)) = some y5:=(hf 5 _ rfl).trans e5
 have f6:DataW.trod enc Tryz.prog w base spare held n 37 ((cs.drop 6).take (Tryz.prog.cellsOf 37)) = some y6:=(hf 6 _ rfl).trans e6
 have f7:DataW.trod enc Tryz.prog w base spare held n 9 ((cs.drop 7).take (Tryz.prog.cellsOf 9)) = some y7:=(hf 7 _ rfl).trans e7
 clear hf hx e0 e1 e2 e3 e4 e5 e6 e7 h hlen
 obtain ⟨v0,v1,v2,v3,v4,v5,v6,v7,rfl⟩:=list8 hl8
 ·clear hl8
  simp only [k3,k22,k9,List.drop_zero,List.drop_succ_cons,List.take_succ_cons,List.take_zero] at f0 f1 f2 f3 f4 f5 f6 f7
  obtain ⟨n0,c0,_,b0⟩:=DataW.trod_int Tryz.underlying3 f0
  obtain ⟨n1,c1,_,b1⟩:=DataW.trod_int Tryz.underlying3 f1
  obtain ⟨n2,c2,_,b2⟩:=DataW.trod_int Tryz.underlying3 f2
  obtain ⟨n3,c3,_,b3⟩:=DataW.trod_int Tryz.underlying3 f3
  obtain ⟨n4,c4,_,b4⟩:=DataW.trod_int Tryz.underlying3 f4
  obtain ⟨n5,c5,_,b5⟩:=DataW.trod_int Tryz.underlying3 f5
  obtain ⟨n6,c6,b6⟩:=trod_flt Tryz.underlying37 f6
  obtain ⟨n7,c7,_,b7⟩:=DataW.trod_string Tryz.underlying9 f7
  simp only [List.cons.injEq,and_true] at c0 c1 c2 c3 c4 c5 c6 c7
  subst c0 c1 c2 c3 c4 c5 c6 c7
  exact ⟨⟨n0,n1,n2,n3,n4,n5,n6,n7⟩,rfl,⟨b0,b1,b2,b3,b4,b5,b6,b7⟩⟩
end
end Go.Proofs.YtopjoogdpjaocaaGreat
namespace Go.Proofs.YtopjoogdpjaocaaGreat
open Go.RowKit
set_option maxRecDepth 100000 in
set_option maxHeartbeats 1600000 in
theorem szEvent_any (e:Ev) (x:Int) (w:World) (h0:0 ≤ x) (h1:x ≤ 1073741824) (hg:e.cmd.g.size ≤ maxLen) :
  Calls Tryz.prog 21 #[evV e,.int .i64 x] w fun r w'=>∃ y:Int,r = .returned (.int .i64 y)∧y ≤ x∧Below w.heap.size w w':=by
 have hb0:Below w.heap.size w (w.alloc (Obj.cells e.vs.toArray 62)):=(Below.refl _ _).alloc (Nat.le_refl _) _
 have HX:=hide (zaK w e.vs 62)
 have HB:=hide hb0
 have HS:=hide (fun W=>szCmd_any e.cmd x W h0 h1 hg)
 clear hb0 hg
 obtain ⟨kind,⟨ck,cs,ct,cl,cq,ci,cp,cg⟩,id,other,qty,price,reason⟩:=e
 unfold evV
 unfold Ev.vs at HX HB
 simp only at HX HB HS ⊢
 go_enter Tryz.func21,Tryz.ntmps21
 refine wp_seq_k fun K hK=>?_
 have HK1:=hide hK
 clear hK
 go_wp2_with fail
 refine za HK1 _ _ ?_
 clear HK1
 generalize (w.alloc (Obj.cells #[.int .i64 kind,.int .i64 ck,.int .i64 cs,.int .i64 ct,.int .i64 cl,.int .i64 cq,.int .i64 ci,.float .f64 cp,.string cg,.int .i64 id,.int .i64 other,.int .i64 qty,.int .i64 price,.int .i64 reason] 62)) = W1 at HX HB ⊢
 have x0:=zd (za HX) 0 rfl
 have x1:=zd (za HX) 1 rfl
 have x2:=zd (za HX) 2 rfl
 have x3:=zd (za HX) 3 rfl
 have x4:=zd (za HX) 4 rfl
 have x5:=zd (za HX) 5 rfl
 have x6:=zd (za HX) 6 rfl
 have x7:=zd (za HX) 7 rfl
 have x8:=zd (za HX) 8 rfl
 have x9:=zd (za HX) 9 rfl
 have x10:=zd (za HX) 10 rfl
 have x11:=zd (za HX) 11 rfl
 have x12:=zd (za HX) 12 rfl
 have x13:=zd (za HX) 13 rfl
 go_wp2_with fail
 refine (za HS W1).mono ?_
 rintro r W2 ⟨y,rfl,hy0,hy1,hb2⟩
 have HB2:=hide ((za HB).trans (hb2.mono (za HB).size))
 clear hb2 HX
 by_cases hy:y < 0
 ·go_wp2_with fail
  go_ret
  exact ⟨-1,rfl,by omega,za HB2⟩
 ·have hy':0 ≤ y:=by omega
  go_wp2_with fail
  go_ret
  exact ⟨y,rfl,hy1,za HB2⟩
theorem toE_boxes (w:World) (us vs ws:List Value) (t u v:TypeId):Bx (((w.alloc (Obj.cells us.toArray t)).alloc (Obj.cells vs.toArray u)).alloc (Obj.cells ws.toArray v)) w.heap.size us∧Bx (((w.alloc (Obj.cells us.toArray t)).alloc (Obj.cells vs.toArray u)).alloc (Obj.cells ws.toArray v)) (w.heap.size + 1) vs∧Bx (((w.alloc (Obj.cells us.toArray t)).alloc (Obj.cells vs.toArray u)).alloc (Obj.cells ws.toArray v)) (w.heap.size + 2) ws∧Below w.heap.size w (((w.alloc (Obj.cells us.toArray t)).alloc (Obj.cells vs.toArray u)).alloc (Obj.cells ws.toArray v))∧(((w.alloc (Obj.cells us.toArray t)).alloc (Obj.cells vs.toArray u)).alloc (Obj.cells ws.toArray v)).heap.size = w.heap.size + 3:=by
 have s1:(w.alloc (Obj.cells us.toArray t)).heap.size = w.heap.size + 1:=by simp
 have s2:((w.alloc (Obj.cells us.toArray t)).alloc (Obj.cells vs.toArray u)).heap.size = w.heap.size + 2:=by simp
 have h1:=zaK w us t
 have h2:=zaK (w.alloc (Obj.cells us.toArray t)) vs u
 have h3:=zaK ((w.alloc (Obj.cells us.toArray t)).alloc (Obj.cells vs.toArray u)) ws v
 rw [s1] at h2
 rw [s2] at h3
 have b1:Below (w.heap.size + 1) (w.alloc (Obj.cells us.toArray t)) ((w.alloc (Obj.cells us.toArray t)).alloc (Obj.cells vs.toArray u)):=(Below.refl _ _).alloc (by omega) _
 have b2:Below (w.heap.size + 2) ((w.alloc (Obj.cells us.toArray t)).alloc (Obj.cells vs.toArray u)) (((w.alloc (Obj.cells us.toArray t)).alloc (Obj.cells vs.toArray u)).alloc (Obj.cells ws.toArray v)):=(Below.refl _ _).alloc (by omega) _
 exact ⟨zP (zP h1 b1 (by omega)) b2 (by omega),zP h2 b2 (by omega),h3,(((Below.refl _ w).alloc (Nat.le_refl _) _).alloc (by omega) _).alloc (by omega) _,by simp⟩
set_option maxRecDepth 100000 in
set_option maxHeartbeats 3200000 in
theorem toEvent_any (e:Ev) (w:World):Calls Tryz.prog 25 #[evV e] w fun r w'=>r = .returned (evV e)∧Below w.heap.size w w':=by
 have hsf:=sfl
 have HT:=hide (fun W=>toCmd_any e.cmd W)
 have HXX:=hide (toE_boxes w e.vs [.int .i64 0,.int .i64 0,.int .i64 0,.int .i64 0,.int .i64 0,.int .i64 0,.int .i64 0,.float .f64 0,.string ⟨#[]⟩,.int .i64 0,.int .i64 0,.int .i64 0,.int .i64 0,.int .i64 0] [.int .i64 0,.int .i64 0,.int .i64 0,.int .i64 0,.int .i64 0,.int .i64 0,.int .i64 0,.float .f64 0,.string ⟨#[]⟩,.int .i64 0,.int .i64 0,.int .i64 0,.int .i64 0,.int .i64 0] 62 43 43)
 obtain ⟨kind,⟨ck,cs,ct,cl,cq,ci,cp,cg⟩,id,other,qty,price,reason⟩:=e
 unfold evV
 unfold Ev.vs at HXX
 simp only at HXX HT ⊢
 go_enter Tryz.func25,Tryz.ntmps25
 refine wp_seq_k fun K hK=>?_
 have HK1:=hide hK
 clear hK
 go_wp2_with fail
 refine za HK1 _ _ ?_
 clear HK1
 refine wp_seq_k fun K hK=>?_
 have HK1:=hide hK
 clear hK
 go_wp2_with fail
 refine za HK1 _ _ ?_
 clear HK1
 generalize (((w.alloc (Obj.cells #[.int .i64 kind,.int .i64 ck,.int .i64 cs,.int .i64 ct,.int .i64 cl,.int .i64 cq,.int .i64 ci,.float .f64 cp,.string cg,.int .i64 id,.int .i64 other,.int .i64 qty,.int .i64 price,.int .i64 reason] 62)).alloc (Obj.cells #[.int .i64 0,.int .i64 0,.int .i64 0,.int .i64 0,.int .i64 0,.int .i64 0,.int .i64 0,.float .f64 0,.string ⟨#[]⟩,.int .i64 0,.int .i64 0,.int .i64 0,.int .i64 0,.int .i64 0] 43)).alloc (Obj.cells #[.int .i64 0,.int .i64 0,.int .i64 0,.int .i64 0,.int .i64 0,.int .i64 0,.int .i64 0,.float .f64 0,.string ⟨#[]⟩,.int .i64 0,.int .i64 0,.int .i64 0,.int .i64 0,.int .i64 0] 43)) = W1 at HXX ⊢
 obtain ⟨hX,hR,hO,hB,hZ⟩:=za HXX
 have x0:=zd (hX) 0 rfl
 have x1:=zd (hX) 1 rfl
 have x2:=zd (hX) 2 rfl
 have x3:=zd (hX) 3 rfl
 have x4:=zd (hX) 4 rfl
 have x5:=zd (hX) 5 rfl
 have x6:=zd (hX) 6 rfl
 have x7:=zd (hX) 7 rfl
 have x8:=zd (hX) 8 rfl
 have x9:=zd (hX) 9 rfl
 have x10:=zd (hX) 10 rfl
 have x11:=zd (hX) 11 rfl
 have x12:=zd (hX) 12 rfl
 have x13:=zd (hX) 13 rfl
 have o0:=zd hO 0 rfl
 have fo0:=zg hO 0 (by decide)
 have HO1:=hide (zbs (j:=0) (u:=.int .i64 kind) hO (by decide))
 have HX1:=hide (zY (j:=0) (u:=.int .i64 kind) hX (show w.heap.size ≠ w.heap.size + 2 by omega))
 have HR1:=hide (zY (j:=0) (u:=.int .i64 kind) hR (show w.heap.size + 1 ≠ w.heap.size + 2 by omega))
 have HB1:=hide (hB.setCell (p:=⟨w.heap.size + 2,0,none⟩) (show w.heap.size ≤ w.heap.size + 2 by omega) (.int .i64 kind))
 have HZ1:Hid ((W1.setCell ⟨w.heap.size + 2,0,none⟩ (.int .i64 kind)).heap.size = w.heap.size + 3):=by show _ = _; rw [← hZ]; simp [World.setCell]
 clear hX hR hO hB hZ HXX
 refine wp_seq_k fun K hK=>?_
 have HK1:=hide hK
 clear hK
 go_wp2_with fail
 refine za HK1 _ _ ?_
 clear HK1 x0 o0 fo0 x1 x2 x3 x4 x5 x6 x7 x8 x9 x10 x11 x12 x13
 generalize (W1.setCell ⟨w.heap.size + 2,0,none⟩ (.int .i64 kind)) = W2 at HO1 HX1 HR1 HB1 HZ1 ⊢
 have x0:=zd (za HX1) 0 rfl
 have x1:=zd (za HX1) 1 rfl
 have x2:=zd (za HX1) 2 rfl
 have x3:=zd (za HX1) 3 rfl
 have x4:=zd (za HX1) 4 rfl
 have x5:=zd (za HX1) 5 rfl
 have x6:=zd (za HX1) 6 rfl
 have x7:=zd (za HX1) 7 rfl
 have x8:=zd (za HX1) 8 rfl
 have x9:=zd (za HX1) 9 rfl
 have x10:=zd (za HX1) 10 rfl
 have x11:=zd (za HX1) 11 rfl
 have x12:=zd (za HX1) 12 rfl
 have x13:=zd (za HX1) 13 rfl
 refine wp_seq_k fun K hK=>?_
 have HK1:=hide hK
 clear hK
 go_wp2_with fail
 refine (za HT W2).mono ?_
 rintro r W3 ⟨rfl,hb3⟩
 have hz:=za HZ1
 have hX:=zP (za HX1) hb3 (by omega)
 have hR:=zP (za HR1) hb3 (by omega)
 have hO:=zP (za HO1) hb3 (by omega)
 have HB3:=hide ((za HB1).trans (hb3.mono (za HB1).size))
 clear hb3 hz x0 x1 x2 x3 x4 x5 x6 x7 x8 x9 x10 x11 x12 x13
 have o0:=zd (hO) 0 rfl
 have fo0:=zg (hO) 0 (by simp)
 have o1:=zd (hO) 1 rfl
 have fo1:=zg (hO) 1 (by simp)
 have o2:=zd (hO) 2 rfl
 have fo2:=zg (hO) 2 (by simp)
 have o3:=zd (hO) 3 rfl
 have fo3:=zg (hO) 3 (by simp)
 have o4:=zd (hO) 4 rfl
 have fo4:=zg (hO) 4 (by simp)
 have o5:=zd (hO) 5 rfl
 have fo5:=zg (hO) 5 (by simp)
 have o6:=zd (hO) 6 rfl
 have fo6:=zg (hO) 6 (by simp)
 have o7:=zd (hO) 7 rfl
 have fo7:=zg (hO) 7 (by simp)
 have o8:=zd (hO) 8 rfl
 have fo8:=zg (hO) 8 (by simp)
 have o9:=zd (hO) 9 rfl
 have fo9:=zg (hO) 9 (by simp)
 have o10:=zd (hO) 10 rfl
 have fo10:=zg (hO) 10 (by simp)
 have o11:=zd (hO) 11 rfl
 have fo11:=zg (hO) 11 (by simp)
 have o12:=zd (hO) 12 rfl
 have fo12:=zg (hO) 12 (by simp)
 have o13:=zd (hO) 13 rfl
 have fo13:=zg (hO) 13 (by simp)
 have HO4:Hid (Bx ((((((((W3.setCell ⟨w.heap.size + 2,1,none⟩ (.int .i64 ck)).setCell ⟨w.heap.size + 2,2,none⟩ (.int .i64 cs)).setCell ⟨w.heap.size + 2,3,none⟩ (.int .i64 ct)).setCell ⟨w.heap.size + 2,4,none⟩ (.int .i64 cl)).setCell ⟨w.heap.size + 2,5,none⟩ (.int .i64 cq)).setCell ⟨w.heap.size + 2,6,none⟩ (.int .i64 ci)).setCell ⟨w.heap.size + 2,7,none⟩ (.float .f64 cp)).setCell ⟨w.heap.size + 2,8,none⟩ (.string cg)) (w.heap.size + 2) [.int .i64 kind,.int .i64 ck,.int .i64 cs,.int .i64 ct,.int .i64 cl,.int .i64 cq,.int .i64 ci,.float .f64 cp,.string cg,.int .i64 0,.int .i64 0,.int .i64 0,.int .i64 0,.int .i64 0]):=(zbs (j:=8) (u:=.string cg) (zbs (j:=7) (u:=.float .f64 cp) (zbs (j:=6) (u:=.int .i64 ci) (zbs (j:=5) (u:=.int .i64 cq) (zbs (j:=4) (u:=.int .i64 cl) (zbs (j:=3) (u:=.int .i64 ct) (zbs (j:=2) (u:=.int .i64 cs) (zbs (j:=1) (u:=.int .i64 ck) hO (by simp)) (by simp)) (by simp)) (by simp)) (by simp)) (by simp)) (by simp)) (by simp))
 have HX4:=hide (zY (j:=8) (u:=.string cg) (zY (j:=7) (u:=.float .f64 cp) (zY (j:=6) (u:=.int .i64 ci) (zY (j:=5) (u:=.int .i64 cq) (zY (j:=4) (u:=.int .i64 cl) (zY (j:=3) (u:=.int .i64 ct) (zY (j:=2) (u:=.int .i64 cs) (zY (j:=1) (u:=.int .i64 ck) hX (show w.heap.size ≠ w.heap.size + 2 by omega)) (show w.heap.size ≠ w.heap.size + 2 by omega)) (show w.heap.size ≠ w.heap.size + 2 by omega)) (show w.heap.size ≠ w.heap.size + 2 by omega)) (show w.heap.size ≠ w.heap.size + 2 by omega)) (show w.heap.size ≠ w.heap.size + 2 by omega)) (show w.heap.size ≠ w.heap.size + 2 by omega)) (show w.heap.size ≠ w.heap.size + 2 by omega))
 have HR4:=hide (zY (j:=8) (u:=.string cg) (zY (j:=7) (u:=.float .f64 cp) (zY (j:=6) (u:=.int .i64 ci) (zY (j:=5) (u:=.int .i64 cq) (zY (j:=4) (u:=.int .i64 cl) (zY (j:=3) (u:=.int .i64 ct) (zY (j:=2) (u:=.int .i64 cs) (zY (j:=1) (u:=.int .i64 ck) hR (show w.heap.size + 1 ≠ w.heap.size + 2 by omega)) (show w.heap.size + 1 ≠ w.heap.size + 2 by omega)) (show w.heap.size + 1 ≠ w.heap.size + 2 by omega)) (show w.heap.size + 1 ≠ w.heap.size + 2 by omega)) (show w.heap.size + 1 ≠ w.heap.size + 2 by omega)) (show w.heap.size + 1 ≠ w.heap.size + 2 by omega)) (show w.heap.size + 1 ≠ w.heap.size + 2 by omega)) (show w.heap.size + 1 ≠ w.heap.size + 2 by omega))
 have HB4:=hide (((((((((za HB3).setCell (p:=⟨w.heap.size + 2,1,none⟩) (show w.heap.size ≤ w.heap.size + 2 by omega) (.int .i64 ck)).setCell (p:=⟨w.heap.size + 2,2,none⟩) (show w.heap.size ≤ w.heap.size + 2 by omega) (.int .i64 cs)).setCell (p:=⟨w.heap.size + 2,3,none⟩) (show w.heap.size ≤ w.heap.size + 2 by omega) (.int .i64 ct)).setCell (p:=⟨w.heap.size + 2,4,none⟩) (show w.heap.size ≤ w.heap.size + 2 by omega) (.int .i64 cl)).setCell (p:=⟨w.heap.size + 2,5,none⟩) (show w.heap.size ≤ w.heap.size + 2 by omega) (.int .i64 cq)).setCell (p:=⟨w.heap.size + 2,6,none⟩) (show w.heap.size ≤ w.heap.size + 2 by omega) (.int .i64 ci)).setCell (p:=⟨w.heap.size + 2,7,none⟩) (show w.heap.size ≤ w.heap.size + 2 by omega) (.float .f64 cp)).setCell (p:=⟨w.heap.size + 2,8,none⟩) (show w.heap.size ≤ w.heap.size + 2 by omega) (.string cg))
 clear hX hR hO HX1 HR1 HO1 HB1 HZ1 HB3
 go_wp2_with fail
 refine za HK1 _ _ ?_
 clear HK1 o0 fo0 o1 fo1 o2 fo2 o3 fo3 o4 fo4 o5 fo5 o6 fo6 o7 fo7 o8 fo8 o9 fo9 o10 fo10 o11 fo11 o12 fo12 o13 fo13
 generalize ((((((((W3.setCell ⟨w.heap.size + 2,1,none⟩ (.int .i64 ck)).setCell ⟨w.heap.size + 2,2,none⟩ (.int .i64 cs)).setCell ⟨w.heap.size + 2,3,none⟩ (.int .i64 ct)).setCell ⟨w.heap.size + 2,4,none⟩ (.int .i64 cl)).setCell ⟨w.heap.size + 2,5,none⟩ (.int .i64 cq)).setCell ⟨w.heap.size + 2,6,none⟩ (.int .i64 ci)).setCell ⟨w.heap.size + 2,7,none⟩ (.float .f64 cp)).setCell ⟨w.heap.size + 2,8,none⟩ (.string cg)) = W4 at HO4 HX4 HR4 HB4 ⊢
 have x9:=zd (za HX4) 9 rfl
 have x10:=zd (za HX4) 10 rfl
 have x11:=zd (za HX4) 11 rfl
 have x12:=zd (za HX4) 12 rfl
 have x13:=zd (za HX4) 13 rfl
 have o0:=zd (za HO4) 0 rfl
 have fo0:=zg (za HO4) 0 (by simp)
 have o1:=zd (za HO4) 1 rfl
 have fo1:=zg (za HO4) 1 (by simp)
 have o2:=zd (za HO4) 2 rfl
 have fo2:=zg (za HO4) 2 (by simp)
 have o3:=zd (za HO4) 3 rfl
 have fo3:=zg (za HO4) 3 (by simp)
 have o4:=zd (za HO4) 4 rfl
 have fo4:=zg (za HO4) 4 (by simp)
 have o5:=zd (za HO4) 5 rfl
 have fo5:=zg (za HO4) 5 (by simp)
 have o6:=zd (za HO4) 6 rfl
 have fo6:=zg (za HO4) 6 (by simp)
 have o7:=zd (za HO4) 7 rfl
 have fo7:=zg (za HO4) 7 (by simp)
 have o8:=zd (za HO4) 8 rfl
 have fo8:=zg (za HO4) 8 (by simp)
 have o9:=zd (za HO4) 9 rfl
 have fo9:=zg (za HO4) 9 (by simp)
 have o10:=zd (za HO4) 10 rfl
 have fo10:=zg (za HO4) 10 (by simp)
 have o11:=zd (za HO4) 11 rfl
 have fo11:=zg (za HO4) 11 (by simp)
 have o12:=zd (za HO4) 12 rfl
 have fo12:=zg (za HO4) 12 (by simp)
 have o13:=zd (za HO4) 13 rfl
 have fo13:=zg (za HO4) 13 (by simp)
 have HO5:Hid (Bx (((((W4.setCell ⟨w.heap.size + 2,9,none⟩ (.int .i64 id)).setCell ⟨w.heap.size + 2,10,none⟩ (.int .i64 other)).setCell ⟨w.heap.size + 2,11,none⟩ (.int .i64 qty)).setCell ⟨w.heap.size + 2,12,none⟩ (.int .i64 price)).setCell ⟨w.heap.size + 2,13,none⟩ (.int .i64 reason)) (w.heap.size + 2) [.int .i64 kind,.int .i64 ck,.int .i64 cs,.int .i64 ct,.int .i64 cl,.int .i64 cq,.int .i64 ci,.float .f64 cp,.string cg,.int .i64 id,.int .i64 other,.int .i64 qty,.int .i64 price,.int .i64 reason]):=(zbs (j:=13) (u:=.int .i64 reason) (zbs (j:=12) (u:=.int .i64 price) (zbs (j:=11) (u:=.int .i64 qty) (zbs (j:=10) (u:=.int .i64 other) (zbs (j:=9) (u:=.int .i64 id) (za HO4) (by simp)) (by simp)) (by simp)) (by simp)) (by simp))
 have HR5:=hide (zY (j:=13) (u:=.int .i64 reason) (zY (j:=12) (u:=.int .i64 price) (zY (j:=11) (u:=.int .i64 qty) (zY (j:=10) (u:=.int .i64 other) (zY (j:=9) (u:=.int .i64 id) (za HR4) (show w.heap.size + 1 ≠ w.heap.size + 2 by omega)) (show w.heap.size + 1 ≠ w.heap.size + 2 by omega)) (show w.heap.size + 1 ≠ w.heap.size + 2 by omega)) (show w.heap.size + 1 ≠ w.heap.size + 2 by omega)) (show w.heap.size + 1 ≠ w.heap.size + 2 by omega))
 have HB5:=hide ((((((za HB4).setCell (p:=⟨w.heap.size + 2,9,none⟩) (show w.heap.size ≤ w.heap.size + 2 by omega) (.int .i64 id)).setCell (p:=⟨w.heap.size + 2,10,none⟩) (show w.heap.size ≤ w.heap.size + 2 by omega) (.int .i64 other)).setCell (p:=⟨w.heap.size + 2,11,none⟩) (show w.heap.size ≤ w.heap.size + 2 by omega) (.int .i64 qty)).setCell (p:=⟨w.heap.size + 2,12,none⟩) (show w.heap.size ≤ w.heap.size + 2 by omega) (.int .i64 price)).setCell (p:=⟨w.heap.size + 2,13,none⟩) (show w.heap.size ≤ w.heap.size + 2 by omega) (.int .i64 reason))
 clear HO4 HX4 HR4 HB4
 refine wp_seq_k fun K hK=>?_
 have HK1:=hide hK
 clear hK
 go_wp2_with fail
 refine za HK1 _ _ ?_
 clear HK1
 refine wp_seq_k fun K hK=>?_
 have HK1:=hide hK
 clear hK
 go_wp2_with fail
 refine za HK1 _ _ ?_
 clear HK1
 refine wp_seq_k fun K hK=>?_
 have HK1:=hide hK
 clear hK
 go_wp2_with fail
 refine za HK1 _ _ ?_
 clear HK1
 refine wp_seq_k fun K hK=>?_
 have HK1:=hide hK
 clear hK
 go_wp2_with fail
 refine za HK1 _ _ ?_
 clear HK1
 refine wp_seq_k fun K hK=>?_
 have HK1:=hide hK
 clear hK
 go_wp2_with fail
 refine za HK1 _ _ ?_
 clear HK1
 clear o0 fo0 o1 fo1 o2 fo2 o3 fo3 o4 fo4 o5 fo5 o6 fo6 o7 fo7 o8 fo8 o9 fo9 o10 fo10 o11 fo11 o12 fo12 o13 fo13 x9 x10 x11 x12 x13
 generalize (((((W4.setCell ⟨w.heap.size + 2,9,none⟩ (.int .i64 id)).setCell ⟨w.heap.size + 2,10,none⟩ (.int .i64 other)).setCell ⟨w.heap.size + 2,11,none⟩ (.int .i64 qty)).setCell ⟨w.heap.size + 2,12,none⟩ (.int .i64 price)).setCell ⟨w.heap.size + 2,13,none⟩ (.int .i64 reason)) = W5 at HO5 HR5 HB5 ⊢
 have o0:=zd (za HO5) 0 rfl
 have o1:=zd (za HO5) 1 rfl
 have o2:=zd (za HO5) 2 rfl
 have o3:=zd (za HO5) 3 rfl
 have o4:=zd (za HO5) 4 rfl
 have o5:=zd (za HO5) 5 rfl
 have o6:=zd (za HO5) 6 rfl
 have o7:=zd (za HO5) 7 rfl
 have o8:=zd (za HO5) 8 rfl
 have o9:=zd (za HO5) 9 rfl
 have o10:=zd (za HO5) 10 rfl
 have o11:=zd (za HO5) 11 rfl
 have o12:=zd (za HO5) 12 rfl
 have o13:=zd (za HO5) 13 rfl
 have r0:=zd (za HR5) 0 rfl
 have fr0:=zg (za HR5) 0 (by simp)
 have r1:=zd (za HR5) 1 rfl
 have fr1:=zg (za HR5) 1 (by simp)
 have r2:=zd (za HR5) 2 rfl
 have fr2:=zg (za HR5) 2 (by simp)
 have r3:=zd (za HR5) 3 rfl
 have fr3:=zg (za HR5) 3 (by simp)
 have r4:=zd (za HR5) 4 rfl
 have fr4:=zg (za HR5) 4 (by simp)
 have r5:=zd (za HR5) 5 rfl
 have fr5:=zg (za HR5) 5 (by simp)
 have r6:=zd (za HR5) 6 rfl
 have fr6:=zg (za HR5) 6 (by simp)
 have r7:=zd (za HR5) 7 rfl
 have fr7:=zg (za HR5) 7 (by simp)
 have r8:=zd (za HR5) 8 rfl
 have fr8:=zg (za HR5) 8 (by simp)
 have r9:=zd (za HR5) 9 rfl
 have fr9:=zg (za HR5) 9 (by simp)
 have r10:=zd (za HR5) 10 rfl
 have fr10:=zg (za HR5) 10 (by simp)
 have r11:=zd (za HR5) 11 rfl
 have fr11:=zg (za HR5) 11 (by simp)
 have r12:=zd (za HR5) 12 rfl
 have fr12:=zg (za HR5) 12 (by simp)
 have r13:=zd (za HR5) 13 rfl
 have fr13:=zg (za HR5) 13 (by simp)
 have HXF:=hide (zad (us:=[.int .i64 kind,.int .i64 ck,.int .i64 cs,.int .i64 ct,.int .i64 cl,.int .i64 cq,.int .i64 ci,.float .f64 cp,.string cg,.int .i64 id,.int .i64 other,.int .i64 qty,.int .i64 price,.int .i64 reason]) (za HR5) rfl)
 have HBF:=hide (zm (w.heap.size + 1) (by omega) [.int .i64 kind,.int .i64 ck,.int .i64 cs,.int .i64 ct,.int .i64 cl,.int .i64 cq,.int .i64 ci,.float .f64 cp,.string cg,.int .i64 id,.int .i64 other,.int .i64 qty,.int .i64 price,.int .i64 reason] 0 W5 (za HB5))
 clear HO5 HR5 HB5
 go_wp2_with fail
 rw [set14]
 generalize (W5.setCells (w.heap.size + 1) 0 [.int .i64 kind,.int .i64 ck,.int .i64 cs,.int .i64 ct,.int .i64 cl,.int .i64 cq,.int .i64 ci,.float .f64 cp,.string cg,.int .i64 id,.int .i64 other,.int .i64 qty,.int .i64 price,.int .i64 reason]) = WF at HXF HBF ⊢
 have d0:=zd (za HXF) 0 rfl
 have d1:=zd (za HXF) 1 rfl
 have d2:=zd (za HXF) 2 rfl
 have d3:=zd (za HXF) 3 rfl
 have d4:=zd (za HXF) 4 rfl
 have d5:=zd (za HXF) 5 rfl
 have d6:=zd (za HXF) 6 rfl
 have d7:=zd (za HXF) 7 rfl
 have d8:=zd (za HXF) 8 rfl
 have d9:=zd (za HXF) 9 rfl
 have d10:=zd (za HXF) 10 rfl
 have d11:=zd (za HXF) 11 rfl
 have d12:=zd (za HXF) 12 rfl
 have d13:=zd (za HXF) 13 rfl
 refine bodyPost_ret (v:=.agg #[.int .i64 kind,.int .i64 ck,.int .i64 cs,.int .i64 ct,.int .i64 cl,.int .i64 cq,.int .i64 ci,.float .f64 cp,.string cg,.int .i64 id,.int .i64 other,.int .i64 qty,.int .i64 price,.int .i64 reason]) ?_ rfl ⟨rfl,za HBF⟩
 simp [results,Tryz.f25,go_sem,d0,d1,d2,d3,d4,d5,d6,d7,d8,d9,d10,d11,d12,d13]
end Go.Proofs.YtopjoogdpjaocaaGreat
