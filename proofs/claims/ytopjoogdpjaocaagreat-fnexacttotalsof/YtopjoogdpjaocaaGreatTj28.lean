/-
  What rests, counted, by the model: proved by walking the function.
-/
import Derived.Test.YtopjoogdpjaocaaGreatTj27
set_option linter.unusedVariables false
set_option maxHeartbeats 6400000
set_option maxRecDepth 100000
namespace Go.Proofs.YtopjoogdpjaocaaGreat
open Go.RowKit
def livS (l:List Od):Int:=l.foldl (fun n o=>wrap64 (n + o.left)) 0
theorem liv_step (l:List Od) {k:Nat} {o:Od} (h:l[k]? = some o):livS (l.take (k + 1)) = wrap64 (livS (l.take k) + o.left):=by
 unfold livS
 rw [List.take_add_one,h,List.foldl_append]; rfl
set_option maxRecDepth 100000 in
set_option maxHeartbeats 1600000 in
theorem l04Live_any (next:Int) (v:Value) (l:List Od) (w:World) (hr:RdR Od.vs 6 w v l) :
  Calls Tryz.prog 42 #[.agg #[.int .i64 next,v]] w fun r w'=>r = .returned (.tuple #[.int .i64 l.length,.int .i64 (livS l)])∧Below w.heap.size w w':=by
 obtain ⟨a,cap,rfl,hlen,hc⟩:=hr
 have hcell:∀ (k:Nat) (c:Od),l[k]? = some c→∃ b off,a = some ⟨b,off,none⟩∧b < w.heap.size∧w.rangeAt b (off + k * 6) c.vs:=by
  intro k c hk
  obtain ⟨b,off,h1,h2,h3⟩:=hc (by intro h; rw [h] at hk; simp at hk)
  exact ⟨b,off,h1,h2,h3 k c hk⟩
 have HC:=hide hcell
 clear hcell hc
 have b1:Below w.heap.size w (w.alloc (Obj.cells #[.int .i64 next,.slice a l.length cap] 46)):=(Below.refl _ _).alloc (Nat.le_refl _) _
 have HX:Hid (_∧_∧_):=⟨zh w [.int .i64 next,.slice a l.length cap] 46,b1,ze w (Obj.cells #[.int .i64 next,.slice a l.length cap] 46)⟩
 clear b1
 go_enter Tryz.func42,Tryz.ntmps42
 refine wp_seq_k fun K hK=>?_
 have HK1:=hide hK
 clear hK
 go_wp2_with fail
 refine za HK1 _ _ ?_
 clear HK1
 change Hid (World.rangeAt (w.alloc (Obj.cells #[.int .i64 next,.slice a l.length cap] 46)) w.heap.size 0 [.int .i64 next,.slice a l.length cap]∧Below w.heap.size w (w.alloc (Obj.cells #[.int .i64 next,.slice a l.length cap] 46))∧(w.alloc (Obj.cells #[.int .i64 next,.slice a l.length cap] 46)).heap.size = w.heap.size + 1) at HX
 generalize (w.alloc (Obj.cells #[.int .i64 next,.slice a l.length cap] 46)) = X at HX ⊢
 have c1:X.cell? ⟨w.heap.size,1,none⟩ = some (.slice a l.length cap):=(za HX).1 1 _ rfl
 go_wp2_with fail
 go_loopw [4,5] (fun nv iv wr=>wr = X∧∃ (k:Nat),k ≤ l.length∧iv = .int .i64 k∧∃ n:Int,nv = .int .i64 n∧Hid (n = livS (l.take k))) (fun _ iv _=>l.length - (intOf iv).toNat)
 case atStart=>exact ⟨rfl,0,Nat.zero_le _,rfl,0,rfl,rfl⟩
 case round =>
  obtain ⟨rfl,k,hk,rfl,n,rfl,hn⟩:=hrel
  by_cases hlt:k < l.length
  ·obtain ⟨e,hke⟩:∃ e,l[k]? = some e:=⟨_,List.getElem?_eq_getElem hlt⟩
   obtain ⟨b,off,rfl,hb,hcl⟩:=za HC k e hke
   have HNX:=hide (liv_step l hke)
   have hlt':(k:Int) < l.length:=by omega
   obtain ⟨g0,g1,g2,g3,g4,g5⟩:=zD (zb hcl (za HX).2.1 hb)
   clear hke hcl hb
   go_wp2_with fail
   go_roundw
   case rel=>exact ⟨trivial,k + 1,by omega,by go_num,_,rfl,hide (by rw [za HNX,za hn])⟩
   case measure=>simp [intOf]; omega
  ·have hlt':¬ (k:Int) < l.length:=by omega
   rw [List.take_of_length_le (by omega)] at hn
   have HB:=hide (za HX).2.1
   clear HX
   go_wp2_with fail
   try simp only [Exit.inBlock,Exit.then]
   refine bodyPost_ret (by simp [results,Tryz.results42,go_sem]; try rfl) rfl ?_
   exact ⟨by rw [za hn],za HB⟩
def cntM (t:Tot) (e:Ev):Tot :=
 if e.kind = 1 then { t with ac:=wrap64 (t.ac + 1) } else if e.kind = 2 then { t with rf:=wrap64 (t.rf + 1) }
 else if e.kind = 3 then { t with tr:=wrap64 (t.tr + 1),vo:=wrap64 (t.vo + e.qty),no:=wrap64 (t.no + wrap64 (e.qty * e.price)),le:=wrap64 (t.le - e.qty) }
 else if e.kind = 4 then { t with li:=wrap64 (t.li + 1),le:=wrap64 (t.le + e.qty) } else t
set_option maxRecDepth 100000 in
set_option maxHeartbeats 3200000 in
theorem l04Count_any (t:Tot) (e:Ev) (w:World) :
  Calls Tryz.prog 41 #[.agg #[.int .i64 t.gr,.int .i64 t.ac,.int .i64 t.rf,.int .i64 t.tr,.int .i64 t.vo,.int .i64 t.no,.int .i64 t.li,.int .i64 t.le],.agg #[.int .i64 e.kind,.int .i64 e.cmd.k,.int .i64 e.cmd.s,.int .i64 e.cmd.t,.int .i64 e.cmd.l,.int .i64 e.cmd.q,.int .i64 e.cmd.i,.float .f64 e.cmd.p,.string e.cmd.g,.int .i64 e.id,.int .i64 e.other,.int .i64 e.qty,.int .i64 e.price,.int .i64 e.reason]] w fun r w'=>r = .returned (.agg #[.int .i64 (cntM t e).gr,.int .i64 (cntM t e).ac,.int .i64 (cntM t e).rf,.int .i64 (cntM t e).tr,.int .i64 (cntM t e).vo,.int .i64 (cntM t e).no,.int .i64 (cntM t e).li,.int .i64 (cntM t e).le])∧Below w.heap.size w w':=by
 have HM:Hid (cntM t e = if e.kind = 1 then { t with ac:=wrap64 (t.ac + 1) } else if e.kind = 2 then { t with rf:=wrap64 (t.rf + 1) }
  else if e.kind = 3 then { t with tr:=wrap64 (t.tr + 1),vo:=wrap64 (t.vo + e.qty),no:=wrap64 (t.no + wrap64 (e.qty * e.price)),le:=wrap64 (t.le - e.qty) }
  else if e.kind = 4 then { t with li:=wrap64 (t.li + 1),le:=wrap64 (t.le + e.qty) } else t):=rfl
 generalize cntM t e = M at HM ⊢
 obtain ⟨tgr,tac,trf,ttr,tvo,tno,tli,tle⟩:=t
 simp only at HM ⊢
 have hsf:=sfl
 have hs1:(w.alloc (Obj.cells #[.int .i64 tgr,.int .i64 tac,.int .i64 trf,.int .i64 ttr,.int .i64 tvo,.int .i64 tno,.int .i64 tli,.int .i64 tle] 25)).heap.size = w.heap.size + 1:=ze _ _
 have hs2:((w.alloc (Obj.cells #[.int .i64 tgr,.int .i64 tac,.int .i64 trf,.int .i64 ttr,.int .i64 tvo,.int .i64 tno,.int .i64 tli,.int .i64 tle] 25)).alloc (Obj.cells #[.int .i64 e.kind,.int .i64 e.cmd.k,.int .i64 e.cmd.s,.int .i64 e.cmd.t,.int .i64 e.cmd.l,.int .i64 e.cmd.q,.int .i64 e.cmd.i,.float .f64 e.cmd.p,.string e.cmd.g,.int .i64 e.id,.int .i64 e.other,.int .i64 e.qty,.int .i64 e.price,.int .i64 e.reason] 43)).heap.size = w.heap.size + 1 + 1:=by rw [ze,hs1]
 have hs3:(((w.alloc (Obj.cells #[.int .i64 tgr,.int .i64 tac,.int .i64 trf,.int .i64 ttr,.int .i64 tvo,.int .i64 tno,.int .i64 tli,.int .i64 tle] 25)).alloc (Obj.cells #[.int .i64 e.kind,.int .i64 e.cmd.k,.int .i64 e.cmd.s,.int .i64 e.cmd.t,.int .i64 e.cmd.l,.int .i64 e.cmd.q,.int .i64 e.cmd.i,.float .f64 e.cmd.p,.string e.cmd.g,.int .i64 e.id,.int .i64 e.other,.int .i64 e.qty,.int .i64 e.price,.int .i64 e.reason] 43)).alloc (Obj.cells #[.int .i64 0,.int .i64 0,.int .i64 0,.int .i64 0,.int .i64 0,.int .i64 0,.int .i64 0,.int .i64 0] 25)).heap.size = w.heap.size + 1 + 1 + 1:=by rw [ze,hs2]
 have r1:=zh w [.int .i64 tgr,.int .i64 tac,.int .i64 trf,.int .i64 ttr,.int .i64 tvo,.int .i64 tno,.int .i64 tli,.int .i64 tle] 25
 have t1:=zw w [.int .i64 tgr,.int .i64 tac,.int .i64 trf,.int .i64 ttr,.int .i64 tvo,.int .i64 tno,.int .i64 tli,.int .i64 tle] 25
 have r2:=zh (w.alloc (Obj.cells #[.int .i64 tgr,.int .i64 tac,.int .i64 trf,.int .i64 ttr,.int .i64 tvo,.int .i64 tno,.int .i64 tli,.int .i64 tle] 25)) [.int .i64 e.kind,.int .i64 e.cmd.k,.int .i64 e.cmd.s,.int .i64 e.cmd.t,.int .i64 e.cmd.l,.int .i64 e.cmd.q,.int .i64 e.cmd.i,.float .f64 e.cmd.p,.string e.cmd.g,.int .i64 e.id,.int .i64 e.other,.int .i64 e.qty,.int .i64 e.price,.int .i64 e.reason] 43
 have t3:=zw ((w.alloc (Obj.cells #[.int .i64 tgr,.int .i64 tac,.int .i64 trf,.int .i64 ttr,.int .i64 tvo,.int .i64 tno,.int .i64 tli,.int .i64 tle] 25)).alloc (Obj.cells #[.int .i64 e.kind,.int .i64 e.cmd.k,.int .i64 e.cmd.s,.int .i64 e.cmd.t,.int .i64 e.cmd.l,.int .i64 e.cmd.q,.int .i64 e.cmd.i,.float .f64 e.cmd.p,.string e.cmd.g,.int .i64 e.id,.int .i64 e.other,.int .i64 e.qty,.int .i64 e.price,.int .i64 e.reason] 43)) [.int .i64 0,.int .i64 0,.int .i64 0,.int .i64 0,.int .i64 0,.int .i64 0,.int .i64 0,.int .i64 0] 25
 rw [hs2] at t3
 rw [hs1] at r2
 have b1:Below w.heap.size w (w.alloc (Obj.cells #[.int .i64 tgr,.int .i64 tac,.int .i64 trf,.int .i64 ttr,.int .i64 tvo,.int .i64 tno,.int .i64 tli,.int .i64 tle] 25)):=(Below.refl _ _).alloc (Nat.le_refl _) _
 have b2:Below (w.heap.size + 1) (w.alloc (Obj.cells #[.int .i64 tgr,.int .i64 tac,.int .i64 trf,.int .i64 ttr,.int .i64 tvo,.int .i64 tno,.int .i64 tli,.int .i64 tle] 25)) ((w.alloc (Obj.cells #[.int .i64 tgr,.int .i64 tac,.int .i64 trf,.int .i64 ttr,.int .i64 tvo,.int .i64 tno,.int .i64 tli,.int .i64 tle] 25)).alloc (Obj.cells #[.int .i64 e.kind,.int .i64 e.cmd.k,.int .i64 e.cmd.s,.int .i64 e.cmd.t,.int .i64 e.cmd.l,.int .i64 e.cmd.q,.int .i64 e.cmd.i,.float .f64 e.cmd.p,.string e.cmd.g,.int .i64 e.id,.int .i64 e.other,.int .i64 e.qty,.int .i64 e.price,.int .i64 e.reason] 43)):=(Below.refl _ _).alloc (by omega) _
 have b3:Below (w.heap.size + 1 + 1) ((w.alloc (Obj.cells #[.int .i64 tgr,.int .i64 tac,.int .i64 trf,.int .i64 ttr,.int .i64 tvo,.int .i64 tno,.int .i64 tli,.int .i64 tle] 25)).alloc (Obj.cells #[.int .i64 e.kind,.int .i64 e.cmd.k,.int .i64 e.cmd.s,.int .i64 e.cmd.t,.int .i64 e.cmd.l,.int .i64 e.cmd.q,.int .i64 e.cmd.i,.float .f64 e.cmd.p,.string e.cmd.g,.int .i64 e.id,.int .i64 e.other,.int .i64 e.qty,.int .i64 e.price,.int .i64 e.reason] 43)) (((w.alloc (Obj.cells #[.int .i64 tgr,.int .i64 tac,.int .i64 trf,.int .i64 ttr,.int .i64 tvo,.int .i64 tno,.int .i64 tli,.int .i64 tle] 25)).alloc (Obj.cells #[.int .i64 e.kind,.int .i64 e.cmd.k,.int .i64 e.cmd.s,.int .i64 e.cmd.t,.int .i64 e.cmd.l,.int .i64 e.cmd.q,.int .i64 e.cmd.i,.float .f64 e.cmd.p,.string e.cmd.g,.int .i64 e.id,.int .i64 e.other,.int .i64 e.qty,.int .i64 e.price,.int .i64 e.reason] 43)).alloc (Obj.cells #[.int .i64 0,.int .i64 0,.int .i64 0,.int .i64 0,.int .i64 0,.int .i64 0,.int .i64 0,.int .i64 0] 25)):=(Below.refl _ _).alloc (by omega) _
 have HX:Hid (_∧_∧_∧_∧_):=⟨zb (zb r1 b2 (by omega)) b3 (by omega),zf (zf t1 b2 (by omega)) b3 (by omega),t3,(b1.trans (b2.mono (by omega))).trans (b3.mono (by omega)),Nat.le_of_eq hs3.symm⟩
 have HEV:=hide (zb r2 b3 (by omega))
 clear hs1 hs2 hs3 r1 r2 t1 t3 b1 b2 b3
 go_enter Tryz.func41,Tryz.ntmps41
 refine wp_seq_k fun K hK=>?_
 have HK1:=hide hK
 clear hK
 go_wp2_with fail
 refine za HK1 _ _ ?_
 clear HK1
 generalize (((w.alloc (Obj.cells #[.int .i64 tgr,.int .i64 tac,.int .i64 trf,.int .i64 ttr,.int .i64 tvo,.int .i64 tno,.int .i64 tli,.int .i64 tle] 25)).alloc (Obj.cells #[.int .i64 e.kind,.int .i64 e.cmd.k,.int .i64 e.cmd.s,.int .i64 e.cmd.t,.int .i64 e.cmd.l,.int .i64 e.cmd.q,.int .i64 e.cmd.i,.float .f64 e.cmd.p,.string e.cmd.g,.int .i64 e.id,.int .i64 e.other,.int .i64 e.qty,.int .i64 e.price,.int .i64 e.reason] 43)).alloc (Obj.cells #[.int .i64 0,.int .i64 0,.int .i64 0,.int .i64 0,.int .i64 0,.int .i64 0,.int .i64 0,.int .i64 0] 25)) = X at HX HEV ⊢
 have HX:Hid (X.rangeAt w.heap.size 0 [.int .i64 tgr,.int .i64 tac,.int .i64 trf,.int .i64 ttr,.int .i64 tvo,.int .i64 tno,.int .i64 tli,.int .i64 tle]∧X.there w.heap.size 0 8∧X.there (w.heap.size + 1 + 1) 0 8∧Below w.heap.size w X∧w.heap.size + 1 + 1 + 1 ≤ X.heap.size):=za HX
 obtain ⟨g0,g1,g2,g3,g4,g5,g6,g7,g8,g9,g10,g11,g12,g13⟩:=zal (za HEV)
 clear g1 g2 g3 g4 g5 g6 g7 g8 g9 g10 g13 HEV
 simp only [Nat.zero_add] at g11 g12
 have d0:X.cell? ⟨w.heap.size,0,none⟩ = some (.int .i64 tgr):=(za HX).1 0 _ rfl
 have p0:X.frozen? ⟨w.heap.size,0,none⟩ = false:=by have:=((za HX).2.1 0 (by omega)).2; rwa [Nat.zero_add] at this
 have d1:X.cell? ⟨w.heap.size,1,none⟩ = some (.int .i64 tac):=(za HX).1 1 _ rfl
 have p1:X.frozen? ⟨w.heap.size,1,none⟩ = false:=by have:=((za HX).2.1 1 (by omega)).2; rwa [Nat.zero_add] at this
 have d2:X.cell? ⟨w.heap.size,2,none⟩ = some (.int .i64 trf):=(za HX).1 2 _ rfl
 have p2:X.frozen? ⟨w.heap.size,2,none⟩ = false:=by have:=((za HX).2.1 2 (by omega)).2; rwa [Nat.zero_add] at this
 have d3:X.cell? ⟨w.heap.size,3,none⟩ = some (.int .i64 ttr):=(za HX).1 3 _ rfl
 have p3:X.frozen? ⟨w.heap.size,3,none⟩ = false:=by have:=((za HX).2.1 3 (by omega)).2; rwa [Nat.zero_add] at this
 have d4:X.cell? ⟨w.heap.size,4,none⟩ = some (.int .i64 tvo):=(za HX).1 4 _ rfl
 have p4:X.frozen? ⟨w.heap.size,4,none⟩ = false:=by have:=((za HX).2.1 4 (by omega)).2; rwa [Nat.zero_add] at this
 have d5:X.cell? ⟨w.heap.size,5,none⟩ = some (.int .i64 tno):=(za HX).1 5 _ rfl
 have p5:X.frozen? ⟨w.heap.size,5,none⟩ = false:=by have:=((za HX).2.1 5 (by omega)).2; rwa [Nat.zero_add] at this
 have d6:X.cell? ⟨w.heap.size,6,none⟩ = some (.int .i64 tli):=(za HX).1 6 _ rfl
 have p6:X.frozen? ⟨w.heap.size,6,none⟩ = false:=by have:=((za HX).2.1 6 (by omega)).2; rwa [Nat.zero_add] at this
 have d7:X.cell? ⟨w.heap.size,7,none⟩ = some (.int .i64 tle):=(za HX).1 7 _ rfl
 have p7:X.frozen? ⟨w.heap.size,7,none⟩ = false:=by have:=((za HX).2.1 7 (by omega)).2; rwa [Nat.zero_add] at this
 refine wp_seq_k fun K hK=>?_
 have HK1:=hide hK
 clear hK
 have HT:Hid (∀ (V:World) (T:Tot) (u5 u6 u7 u8 u9 u10 u11 u12 u13 u14 u15 u16 u17 u18 u19 u20 u21 u22 u23 u24 u25 u26 u27 u28 u29 u30 u31 u32 u33 u34 u35 u36 u37 u38 u39 u40 u41 u42 u43 u44 u45 u46 u47 u48 u49 u50 u51 u52 u53 u54 u55 u56 u57:Value),M = T→(V.rangeAt w.heap.size 0 T.vs∧V.there w.heap.size 0 8∧V.there (w.heap.size + 1 + 1) 0 8∧Below w.heap.size w V∧w.heap.size + 1 + 1 + 1 ≤ V.heap.size)→K { tmps:=#[.agg #[.int .i64 tgr,.int .i64 tac,.int .i64 trf,.int .i64 ttr,.int .i64 tvo,.int .i64 tno,.int .i64 tli,.int .i64 tle],.agg #[.int .i64 e.kind,.int .i64 e.cmd.k,.int .i64 e.cmd.s,.int .i64 e.cmd.t,.int .i64 e.cmd.l,.int .i64 e.cmd.q,.int .i64 e.cmd.i,.float .f64 e.cmd.p,.string e.cmd.g,.int .i64 e.id,.int .i64 e.other,.int .i64 e.qty,.int .i64 e.price,.int .i64 e.reason],.pointer (some ⟨w.heap.size,0,none⟩),.pointer (some ⟨w.heap.size + 1,0,none⟩),.pointer (some ⟨w.heap.size + 1 + 1,0,none⟩),u5,u6,u7,u8,u9,u10,u11,u12,u13,u14,u15,u16,u17,u18,u19,u20,u21,u22,u23,u24,u25,u26,u27,u28,u29,u30,u31,u32,u33,u34,u35,u36,u37,u38,u39,u40,u41,u42,u43,u44,u45,u46,u47,u48,u49,u50,u51,u52,u53,u54,u55,u56,u57,undef],defers:=[] } V):=by
  intro V T u5 u6 u7 u8 u9 u10 u11 u12 u13 u14 u15 u16 u17 u18 u19 u20 u21 u22 u23 u24 u25 u26 u27 u28 u29 u30 u31 u32 u33 u34 u35 u36 u37 u38 u39 u40 u41 u42 u43 u44 u45 u46 u47 u48 u49 u50 u51 u52 u53 u54 u55 u56 u57 hMT hin
  have HY:=hide hin
  have HTT:=hide hMT
  clear hin hMT HM HX g0 g11 g12 d0 p0 d1 p1 d2 p2 d3 p3 d4 p4 d5 p5 d6 p6 d7 p7
  obtain ⟨agr,aac,arf,atr,avo,ano,ali,ale⟩:=T
  have c0:V.cell? ⟨w.heap.size,0,none⟩ = some (.int .i64 agr):=(za HY).1 0 _ rfl
  obtain ⟨y0,z0,q0⟩:=zc (za HY).2.2.1 (j:=0) (by omega)
  have c1:V.cell? ⟨w.heap.size,1,none⟩ = some (.int .i64 aac):=(za HY).1 1 _ rfl
  obtain ⟨y1,z1,q1⟩:=zc (za HY).2.2.1 (j:=1) (by omega)
  have c2:V.cell? ⟨w.heap.size,2,none⟩ = some (.int .i64 arf):=(za HY).1 2 _ rfl
  obtain ⟨y2,z2,q2⟩:=zc (za HY).2.2.1 (j:=2) (by omega)
  have c3:V.cell? ⟨w.heap.size,3,none⟩ = some (.int .i64 atr):=(za HY).1 3 _ rfl
  obtain ⟨y3,z3,q3⟩:=zc (za HY).2.2.1 (j:=3) (by omega)
  have c4:V.cell? ⟨w.heap.size,4,none⟩ = some (.int .i64 avo):=(za HY).1 4 _ rfl
  obtain ⟨y4,z4,q4⟩:=zc (za HY).2.2.1 (j:=4) (by omega)
  have c5:V.cell? ⟨w.heap.size,5,none⟩ = some (.int .i64 ano):=(za HY).1 5 _ rfl
  obtain ⟨y5,z5,q5⟩:=zc (za HY).2.2.1 (j:=5) (by omega)
  have c6:V.cell? ⟨w.heap.size,6,none⟩ = some (.int .i64 ali):=(za HY).1 6 _ rfl
  obtain ⟨y6,z6,q6⟩:=zc (za HY).2.2.1 (j:=6) (by omega)
  have c7:V.cell? ⟨w.heap.size,7,none⟩ = some (.int .i64 ale):=(za HY).1 7 _ rfl
  obtain ⟨y7,z7,q7⟩:=zc (za HY).2.2.1 (j:=7) (by omega)
  have HR8:=hide (World.rangeAt_setCells_same V (w.heap.size + 1 + 1) 0 [.int .i64 agr,.int .i64 aac,.int .i64 arf,.int .i64 atr,.int .i64 avo,.int .i64 ano,.int .i64 ali,.int .i64 ale] (fun j hj=>(za HY).2.2.1 j hj))
  have HB8:=hide (zm (w.heap.size + 1 + 1) (by omega) [.int .i64 agr,.int .i64 aac,.int .i64 arf,.int .i64 atr,.int .i64 avo,.int .i64 ano,.int .i64 ali,.int .i64 ale] 0 V (za HY).2.2.2.1)
  refine za HK1 _ _ ?_
  clear HK1
  go_wp2_with fail
  change bodyPost _ _ _ _ _ (V.setCells (w.heap.size + 1 + 1) 0 [.int .i64 agr,.int .i64 aac,.int .i64 arf,.int .i64 atr,.int .i64 avo,.int .i64 ano,.int .i64 ali,.int .i64 ale])
  generalize V.setCells (w.heap.size + 1 + 1) 0 [.int .i64 agr,.int .i64 aac,.int .i64 arf,.int .i64 atr,.int .i64 avo,.int .i64 ano,.int .i64 ali,.int .i64 ale] = WE at HR8 HB8 ⊢
  have d0:WE.cell? ⟨w.heap.size + 1 + 1,0,none⟩ = some (.int .i64 agr):=za HR8 0 _ rfl
  have d1:WE.cell? ⟨w.heap.size + 1 + 1,1,none⟩ = some (.int .i64 aac):=za HR8 1 _ rfl
  have d2:WE.cell? ⟨w.heap.size + 1 + 1,2,none⟩ = some (.int .i64 arf):=za HR8 2 _ rfl
  have d3:WE.cell? ⟨w.heap.size + 1 + 1,3,none⟩ = some (.int .i64 atr):=za HR8 3 _ rfl
  have d4:WE.cell? ⟨w.heap.size + 1 + 1,4,none⟩ = some (.int .i64 avo):=za HR8 4 _ rfl
  have d5:WE.cell? ⟨w.heap.size + 1 + 1,5,none⟩ = some (.int .i64 ano):=za HR8 5 _ rfl
  have d6:WE.cell? ⟨w.heap.size + 1 + 1,6,none⟩ = some (.int .i64 ali):=za HR8 6 _ rfl
  have d7:WE.cell? ⟨w.heap.size + 1 + 1,7,none⟩ = some (.int .i64 ale):=za HR8 7 _ rfl
  refine bodyPost_ret (by simp [results,Tryz.results41,go_sem,d0,d1,d2,d3,d4,d5,d6,d7]; try rfl) rfl ?_
  exact ⟨by rw [za HTT],za HB8⟩
 clear HK1
 by_cases h1:e.kind = 1
 ·have b1:(e.kind == 1) = true:=by simpa using h1
  have HE:=hide ((za HM).trans (if_pos h1))
  clear HM h1
  go_wp2_with fail
  exact za HT _ (Tot.mk tgr (wrap64 (tac + 1)) trf ttr tvo tno tli tle) _ _ _ _ _ _ _ _ _ _ _ _ _ _ _ _ _ _ _ _ _ _ _ _ _ _ _ _ _ _ _ _ _ _ _ _ _ _ _ _ _ _ _ _ _ _ _ _ _ _ _ _ _ (za HE) (keepB (za HX) 1 (by simp) _)
 have b1:(e.kind == 1) = false:=by rw [beq_eq_false_iff_ne]; exact h1
 by_cases h2:e.kind = 2
 ·have b2:(e.kind == 2) = true:=by simpa using h2
  have HE:=hide ((za HM).trans ((if_neg h1).trans (if_pos h2)))
  clear HM h1 h2
  go_wp2_with fail
  exact za HT _ (Tot.mk tgr tac (wrap64 (trf + 1)) ttr tvo tno tli tle) _ _ _ _ _ _ _ _ _ _ _ _ _ _ _ _ _ _ _ _ _ _ _ _ _ _ _ _ _ _ _ _ _ _ _ _ _ _ _ _ _ _ _ _ _ _ _ _ _ _ _ _ _ (za HE) (keepB (za HX) 2 (by simp) _)
 have b2:(e.kind == 2) = false:=by rw [beq_eq_false_iff_ne]; exact h2
 by_cases h3:e.kind = 3
 ·have b3:(e.kind == 3) = true:=by simpa using h3
  have HE:=hide ((za HM).trans ((if_neg h1).trans ((if_neg h2).trans (if_pos h3))))
  clear HM h1 h2 h3
  go_wp2_with fail
  exact za HT _ (Tot.mk tgr tac trf (wrap64 (ttr + 1)) (wrap64 (tvo + e.qty)) (wrap64 (tno + wrap64 (e.qty * e.price))) tli (wrap64 (tle - e.qty))) _ _ _ _ _ _ _ _ _ _ _ _ _ _ _ _ _ _ _ _ _ _ _ _ _ _ _ _ _ _ _ _ _ _ _ _ _ _ _ _ _ _ _ _ _ _ _ _ _ _ _ _ _ (za HE) (keepB (keepB (keepB (keepB (za HX) 3 (by simp) _) 4 (by simp) _) 5 (by simp) _) 7 (by simp) _)
 have b3:(e.kind == 3) = false:=by rw [beq_eq_false_iff_ne]; exact h3
 by_cases h4:e.kind = 4
 ·have b4:(e.kind == 4) = true:=by simpa using h4
  have HE:=hide ((za HM).trans ((if_neg h1).trans ((if_neg h2).trans ((if_neg h3).trans (if_pos h4)))))
  clear HM h1 h2 h3 h4
  go_wp2_with fail
  exact za HT _ (Tot.mk tgr tac trf ttr tvo tno (wrap64 (tli + 1)) (wrap64 (tle + e.qty))) _ _ _ _ _ _ _ _ _ _ _ _ _ _ _ _ _ _ _ _ _ _ _ _ _ _ _ _ _ _ _ _ _ _ _ _ _ _ _ _ _ _ _ _ _ _ _ _ _ _ _ _ _ (za HE) (keepB (keepB (za HX) 6 (by simp) _) 7 (by simp) _)
 have b4:(e.kind == 4) = false:=by rw [beq_eq_false_iff_ne]; exact h4
 have HE:=hide ((za HM).trans ((if_neg h1).trans ((if_neg h2).trans ((if_neg h3).trans (if_neg h4)))))
 clear HM h1 h2 h3 h4
 go_wp2_with fail
 exact za HT _ (Tot.mk tgr tac trf ttr tvo tno tli tle) _ _ _ _ _ _ _ _ _ _ _ _ _ _ _ _ _ _ _ _ _ _ _ _ _ _ _ _ _ _ _ _ _ _ _ _ _ _ _ _ _ _ _ _ _ _ _ _ _ _ _ _ _ (za HE) (za HX)
theorem box3 (w:World) (bl cl rl:List Value) (T1 T2 T3:TypeId):(((w.alloc (Obj.cells bl.toArray T1)).alloc (Obj.cells cl.toArray T2)).alloc (Obj.cells rl.toArray T3)).heap.size = w.heap.size + 3∧World.rangeAt (((w.alloc (Obj.cells bl.toArray T1)).alloc (Obj.cells cl.toArray T2)).alloc (Obj.cells rl.toArray T3)) w.heap.size 0 bl∧World.rangeAt (((w.alloc (Obj.cells bl.toArray T1)).alloc (Obj.cells cl.toArray T2)).alloc (Obj.cells rl.toArray T3)) (w.heap.size + 1) 0 cl∧World.rangeAt (((w.alloc (Obj.cells bl.toArray T1)).alloc (Obj.cells cl.toArray T2)).alloc (Obj.cells rl.toArray T3)) (w.heap.size + 1 + 1) 0 rl∧World.there (((w.alloc (Obj.cells bl.toArray T1)).alloc (Obj.cells cl.toArray T2)).alloc (Obj.cells rl.toArray T3)) (w.heap.size + 1 + 1) 0 rl.length∧Below w.heap.size w (((w.alloc (Obj.cells bl.toArray T1)).alloc (Obj.cells cl.toArray T2)).alloc (Obj.cells rl.toArray T3)):=by
 have hs1:(w.alloc (Obj.cells bl.toArray T1)).heap.size = w.heap.size + 1:=ze _ _
 have hs2:((w.alloc (Obj.cells bl.toArray T1)).alloc (Obj.cells cl.toArray T2)).heap.size = w.heap.size + 1 + 1:=by rw [ze,hs1]
 have r1:=zh w bl T1
 have r2:=zh (w.alloc (Obj.cells bl.toArray T1)) cl T2
 have r3:=zh ((w.alloc (Obj.cells bl.toArray T1)).alloc (Obj.cells cl.toArray T2)) rl T3
 have t3:=zw ((w.alloc (Obj.cells bl.toArray T1)).alloc (Obj.cells cl.toArray T2)) rl T3
 have b1:Below w.heap.size w (w.alloc (Obj.cells bl.toArray T1)):=(Below.refl _ _).alloc (Nat.le_refl _) _
 have b2:Below (w.alloc (Obj.cells bl.toArray T1)).heap.size (w.alloc (Obj.cells bl.toArray T1)) ((w.alloc (Obj.cells bl.toArray T1)).alloc (Obj.cells cl.toArray T2)):=(Below.refl _ _).alloc (Nat.le_refl _) _
 have b3:Below ((w.alloc (Obj.cells bl.toArray T1)).alloc (Obj.cells cl.toArray T2)).heap.size ((w.alloc (Obj.cells bl.toArray T1)).alloc (Obj.cells cl.toArray T2)) (((w.alloc (Obj.cells bl.toArray T1)).alloc (Obj.cells cl.toArray T2)).alloc (Obj.cells rl.toArray T3)):=(Below.refl _ _).alloc (Nat.le_refl _) _
 rw [hs1] at r2
 rw [hs2] at r3 t3
 refine ⟨by rw [ze,hs2],zb (zb r1 b2 (by omega)) b3 (by omega),zb r2 b3 (by omega),r3,t3,b1.trans ((b2.trans (b3.mono b2.size)).mono b1.size)⟩
theorem there_blk {W W':World} {b o n:Nat} (h:W.there b o n) (hb:W'.heap[b]? = W.heap[b]?):W'.there b o n:=fun j hj=>by
 rw [World.cell?_of_block (a:=⟨b,o + j,none⟩) hb,World.frozen?_of_block (a:=⟨b,o + j,none⟩) hb]; exact h j hj
end Go.Proofs.YtopjoogdpjaocaaGreat
