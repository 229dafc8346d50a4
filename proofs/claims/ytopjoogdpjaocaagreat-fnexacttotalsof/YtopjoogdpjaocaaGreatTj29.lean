/-
  The totals of groups and a book, by the model: proved by walking the function.
-/
import Derived.Test.YtopjoogdpjaocaaGreatTj28
set_option linter.unusedVariables false
set_option maxHeartbeats 6400000
set_option maxRecDepth 100000
namespace Go.Proofs.YtopjoogdpjaocaaGreat
open Go.RowKit
def RdG (W:World) (v:Value) (gl:List (List Ev)):Prop :=
 ∃ (a:Option Addr) (cap:Nat),v = .slice a gl.length cap∧gl.length ≤ 1073741824 ∧
  (gl ≠ []→∃ b off,a = some ⟨b,off,none⟩∧b < W.heap.size∧∀ i es,gl[i]? = some es→∃ g,W.cell? ⟨b,off + i,none⟩ = some g∧RdR Ev.vs 14 W g es)
theorem zav {C:Nat} {W W':World} {v:Value} {gl:List (List Ev)} (h:RdG W v gl) (hb:Below C W W') (hC:W.heap.size ≤ C):RdG W' v gl:=by
 obtain ⟨a,cap,e,hl,hc⟩:=h
 refine ⟨a,cap,e,hl,fun hne=>?_⟩
 obtain ⟨b,off,h1,h2,h3⟩:=hc hne
 refine ⟨b,off,h1,Nat.lt_of_lt_of_le h2 hb.size,fun i es hi=>?_⟩
 obtain ⟨g,h4,h5⟩:=h3 i es hi
 exact ⟨g,(hb.cell (p:=⟨b,off + i,none⟩) (Nat.lt_of_lt_of_le h2 hC)).trans h4,zl h5 hb hC⟩
def totG (t:Tot) (gl:List (List Ev)):Tot:=gl.foldl (fun t es=>es.foldl cntM t) t
def totM (gl:List (List Ev)) (l:List Od):Tot:={ totG { tot0 with gr:=gl.length } gl with li:=l.length,le:=livS l }
theorem totG_step (t:Tot) (gl:List (List Ev)) {k:Nat} {es:List Ev} (h:gl[k]? = some es):totG t (gl.take (k + 1)) = es.foldl cntM (totG t (gl.take k)):=by
 unfold totG
 rw [List.take_add_one,h,List.foldl_append]; rfl
theorem cntM_step (t:Tot) (es:List Ev) {k:Nat} {e:Ev} (h:es[k]? = some e):(es.take (k + 1)).foldl cntM t = cntM ((es.take k).foldl cntM t) e:=by
 rw [List.take_add_one,h,List.foldl_append]; rfl
structure JT (w:World) (bk:List Value) (W:World) (T:Tot):Prop where
 r:W.rangeAt (w.heap.size + 1 + 1) 0 T.vs
 t:W.there (w.heap.size + 1 + 1) 0 8
 o:W.there (w.heap.size + 1) 0 8
 k:W.rangeAt w.heap.size 0 bk
 b:Below w.heap.size w W
 z:w.heap.size + 1 + 1 + 1 ≤ W.heap.size
theorem jt_step {w W V:World} {bk:List Value} {T T':Tot} (h:JT w bk W T) (hb:Below W.heap.size W V):JT w bk (V.setCells (w.heap.size + 1 + 1) 0 T'.vs) T':=by
 have hz:=h.z
 have hk:∀ b,b < w.heap.size + 1 + 1→(V.setCells (w.heap.size + 1 + 1) 0 T'.vs).heap[b]? = W.heap[b]?:=fun b hb'=>(zaw _ b (by omega) _ 0 V).trans (hb.block b (by omega))
 have ht2:=zf h.t hb (by omega)
 refine ⟨World.rangeAt_setCells_same V _ 0 _ (fun j hj=>ht2 j (by simpa [Tot.vs] using hj)),fun j hj=>⟨?_,?_⟩,there_blk h.o (hk _ (by omega)),fun j u hj=>?_,zm (w.heap.size + 1 + 1) (by omega) _ 0 V (h.b.trans (hb.mono h.b.size)),by rw [zS]; exact Nat.le_trans hz hb.size⟩
 ·have:=World.rangeAt_setCells_same V (w.heap.size + 1 + 1) 0 T'.vs (fun j hj=>ht2 j (by simpa [Tot.vs] using hj)) j (T'.vs[j]'(by simpa [Tot.vs] using hj)) (List.getElem?_eq_getElem _)
  rw [this]; rfl
 ·rw [zbm]; exact (ht2 j hj).2
 ·rw [World.cell?_of_block (a:=⟨w.heap.size,0 + j,none⟩) (hk w.heap.size (by omega))]; exact h.k j u hj
theorem jt_below {w W V:World} {bk:List Value} {T:Tot} (h:JT w bk W T) (hb:Below W.heap.size W V):JT w bk V T:=by
 have hz:=h.z
 exact ⟨zb h.r hb (by omega),zf h.t hb (by omega),zf h.o hb (by omega),zb h.k hb (by omega),h.b.trans (hb.mono h.b.size),Nat.le_trans hz hb.size⟩
theorem jt_set {w W:World} {bk:List Value} {T:Tot} (h:JT w bk W T) (x y:Int):JT w bk ((W.setCell ⟨w.heap.size + 1 + 1,6,none⟩ (.int .i64 x)).setCell ⟨w.heap.size + 1 + 1,7,none⟩ (.int .i64 y)) { T with li:=x,le:=y }:=by
 have r1:=zaP (j:=6) (u:=.int .i64 x) h.r (by simp [Tot.vs])
 have r2:=zaP (j:=7) (u:=.int .i64 y) r1 (by simp [Tot.vs])
 refine ⟨r2,zC (zC h.t),zC (zC h.o),fun j u hj=>?_,(h.b.setCell (p:=⟨w.heap.size + 1 + 1,6,none⟩) (show w.heap.size ≤ w.heap.size + 1 + 1 by omega) _).setCell (p:=⟨w.heap.size + 1 + 1,7,none⟩) (show w.heap.size ≤ w.heap.size + 1 + 1 by omega) _,by simp only [World.setCell,Array.size_modify]; exact h.z⟩
 have hne:∀ q:Nat,(⟨w.heap.size + 1 + 1,q,none⟩:Addr) ≠ ⟨w.heap.size,0 + j,none⟩:=fun q e=>by have:=congrArg Addr.block e; simp at this; omega
 exact (World.cell?_setCell_other _ _ _ _ (hne 7)).trans ((World.cell?_setCell_other _ _ _ _ (hne 6)).trans (h.k j u hj))
def CV (vs:List Value) (W:World) (j:Nat) (v:Value):Prop:=vs[j]? = some v
set_option maxRecDepth 100000 in
set_option maxHeartbeats 1600000 in
theorem l04Totals_any (v:Value) (gl:List (List Ev)) (next:Int) (vq:Value) (l:List Od) (w:World) (hg:RdG w v gl) (hr:RdR Od.vs 6 w vq l) :
  Calls Tryz.prog 23 #[v,.agg #[.int .i64 next,vq]] w fun r w'=>r = .returned (.agg #[.int .i64 (totM gl l).gr,.int .i64 (totM gl l).ac,.int .i64 (totM gl l).rf,.int .i64 (totM gl l).tr,.int .i64 (totM gl l).vo,.int .i64 (totM gl l).no,.int .i64 (totM gl l).li,.int .i64 (totM gl l).le])∧Below w.heap.size w w':=by
 have HR:=hide hr
 obtain ⟨aq,cq,rfl,hlq,hcq⟩:=hr
 clear hcq hlq
 obtain ⟨a,cap,rfl,hlen,hc⟩:=hg
 have hcell:∀ (k:Nat) (es:List Ev),gl[k]? = some es→∃ b off,a = some ⟨b,off,none⟩∧b < w.heap.size∧∃ ae ce,es.length ≤ 1073741824∧w.cell? ⟨b,off + k,none⟩ = some (.slice ae es.length ce)∧∀ (j:Nat) (e:Ev),es[j]? = some e→∃ b' off',ae = some ⟨b',off',none⟩∧b' < w.heap.size∧w.rangeAt b' (off' + j * 14) e.vs:=by
  intro k es hk
  obtain ⟨b,off,h1,h2,h3⟩:=hc (by intro h; rw [h] at hk; simp at hk)
  obtain ⟨g,h4,ae,ce,rfl,hel,h5⟩:=h3 k es hk
  refine ⟨b,off,h1,h2,ae,ce,hel,h4,fun j e hj=>?_⟩
  obtain ⟨b',off',k1,k2,k3⟩:=h5 (by intro h; rw [h] at hj; simp at hj)
  exact ⟨b',off',k1,k2,k3 j e hj⟩
 have HC:=hide hcell
 clear hcell hc
 have hsf:=sfl
 have HTM:Hid (totM gl l = { totG { tot0 with gr:=gl.length } gl with li:=l.length,le:=livS l }):=rfl
 generalize totM gl l = TM at HTM ⊢
 have hs1:(w.alloc (Obj.cells #[.int .i64 next,.slice aq l.length cq] 46)).heap.size = w.heap.size + 1:=ze _ _
 have hs2:((w.alloc (Obj.cells #[.int .i64 next,.slice aq l.length cq] 46)).alloc (Obj.cells #[.int .i64 0,.int .i64 0,.int .i64 0,.int .i64 0,.int .i64 0,.int .i64 0,.int .i64 0,.int .i64 0] 25)).heap.size = w.heap.size + 1 + 1:=by rw [ze,hs1]
 have r1:=zh w [.int .i64 next,.slice aq l.length cq] 46
 have t2:=zw (w.alloc (Obj.cells #[.int .i64 next,.slice aq l.length cq] 46)) [.int .i64 0,.int .i64 0,.int .i64 0,.int .i64 0,.int .i64 0,.int .i64 0,.int .i64 0,.int .i64 0] 25
 rw [hs1] at t2
 have b1:Below w.heap.size w (w.alloc (Obj.cells #[.int .i64 next,.slice aq l.length cq] 46)):=(Below.refl _ _).alloc (Nat.le_refl _) _
 have b2:Below (w.heap.size + 1) (w.alloc (Obj.cells #[.int .i64 next,.slice aq l.length cq] 46)) ((w.alloc (Obj.cells #[.int .i64 next,.slice aq l.length cq] 46)).alloc (Obj.cells #[.int .i64 0,.int .i64 0,.int .i64 0,.int .i64 0,.int .i64 0,.int .i64 0,.int .i64 0,.int .i64 0] 25)):=(Below.refl _ _).alloc (by omega) _
 have HX:Hid (_∧_∧_∧_):=⟨zb r1 b2 (by omega),t2,b1.trans (b2.mono (by omega)),hs2⟩
 clear hs1 hs2 r1 t2 b1 b2
 go_enter Tryz.func23,Tryz.ntmps23
 refine wp_seq_k fun K hK=>?_
 have HK1:=hide hK
 clear hK
 go_wp2_with fail
 refine za HK1 _ _ ?_
 clear HK1
 generalize ((w.alloc (Obj.cells #[.int .i64 next,.slice aq l.length cq] 46)).alloc (Obj.cells #[.int .i64 0,.int .i64 0,.int .i64 0,.int .i64 0,.int .i64 0,.int .i64 0,.int .i64 0,.int .i64 0] 25)) = X at HX ⊢
 have HX:Hid (X.rangeAt w.heap.size 0 [.int .i64 next,.slice aq l.length cq]∧X.there (w.heap.size + 1) 0 8∧Below w.heap.size w X∧X.heap.size = w.heap.size + 1 + 1):=za HX
 have hXs:=(za HX).2.2.2
 have HJ:Hid (JT w [.int .i64 next,.slice aq l.length cq] (X.alloc (Obj.cells #[.int .i64 gl.length,.int .i64 0,.int .i64 0,.int .i64 0,.int .i64 0,.int .i64 0,.int .i64 0,.int .i64 0] 25)) (totG { tot0 with gr:=gl.length } (gl.take 0))):=by
  have b3:Below X.heap.size X (X.alloc (Obj.cells #[.int .i64 gl.length,.int .i64 0,.int .i64 0,.int .i64 0,.int .i64 0,.int .i64 0,.int .i64 0,.int .i64 0] 25)):=(Below.refl _ _).alloc (Nat.le_refl _) _
  have r3:=zh X [.int .i64 gl.length,.int .i64 0,.int .i64 0,.int .i64 0,.int .i64 0,.int .i64 0,.int .i64 0,.int .i64 0] 25
  have t3:=zw X [.int .i64 gl.length,.int .i64 0,.int .i64 0,.int .i64 0,.int .i64 0,.int .i64 0,.int .i64 0,.int .i64 0] 25
  rw [hXs] at r3 t3
  exact ⟨r3,t3,zf (za HX).2.1 b3 (by omega),zb (za HX).1 b3 (by omega),(za HX).2.2.1.trans (b3.mono (by omega)),by rw [ze]; omega⟩
 refine wp_seq_k fun K hK=>?_
 have HK1:=hide hK
 clear hK
 go_wp2_with fail
 refine za HK1 _ _ ?_
 clear HK1
 generalize (X.alloc (Obj.cells #[.int .i64 gl.length,.int .i64 0,.int .i64 0,.int .i64 0,.int .i64 0,.int .i64 0,.int .i64 0,.int .i64 0] 25)) = Y at HJ ⊢
 clear hXs HX
 refine wp_seq_k fun K hK=>?_
 have HK1:=hide hK
 clear hK
 go_wp2_with fail
 go_loopw [6] (fun iv wr=>∃ (k:Nat),k ≤ gl.length∧iv = .int .i64 k∧Hid (JT w [.int .i64 next,.slice aq l.length cq] wr (totG { tot0 with gr:=gl.length } (gl.take k)))) (fun iv _=>gl.length - (intOf iv).toNat)
 case atStart=>exact ⟨0,Nat.zero_le _,rfl,za HJ⟩
 case round =>
  obtain ⟨k,hk,rfl,hin⟩:=hrel
  by_cases hlt:k < gl.length
  ·obtain ⟨es,hke⟩:∃ es,gl[k]? = some es:=⟨_,List.getElem?_eq_getElem hlt⟩
   obtain ⟨b,off,rfl,hb,ae,ce,hel,hcg,hev⟩:=za HC k es hke
   have HNX:=hide (totG_step { tot0 with gr:=gl.length } gl hke)
   have hlt':(k:Int) < gl.length:=by omega
   have HCG:=hide hcg
   have HEV:=hide hev
   generalize totG { tot0 with gr:=gl.length } (gl.take k) = T0 at HNX hin
   have HJ1:Hid (JT w [.int .i64 next,.slice aq l.length cq] wr ((es.take 0).foldl cntM T0)):=za hin
   clear hke hcg hev hin
   go_wp2_with fail
   go_loopw [7] (fun jv wq=>∃ (j:Nat),j ≤ es.length∧jv = .int .i64 j∧Hid (JT w [.int .i64 next,.slice aq l.length cq] wq ((es.take j).foldl cntM T0))) (fun jv _=>es.length - (intOf jv).toNat)
   case atStart=>exact ⟨0,Nat.zero_le _,rfl,za HJ1⟩
   case round =>
    obtain ⟨j,hj,rfl,hin⟩:=hrel
    have HJ2:=hide (za hin)
    clear hin
    have gc:wr.cell? ⟨b,off + k,none⟩ = some (.slice ae es.length ce):=((za HJ2).b.cell (p:=⟨b,off + k,none⟩) hb).trans (za HCG)
    by_cases hjl:j < es.length
    ·obtain ⟨e,hje⟩:∃ e,es[j]? = some e:=⟨_,List.getElem?_eq_getElem hjl⟩
     obtain ⟨b',off',rfl,hb',hre⟩:=za HEV j e hje
     have HNE:=hide (cntM_step T0 es hje)
     have hjl':(j:Int) < es.length:=by omega
     have HRE:=hide (zb hre (za HJ2).b hb')
     have hbw:b' < wr.heap.size:=Nat.lt_of_lt_of_le hb' (za HJ2).b.size
     have hbg:b < wr.heap.size:=Nat.lt_of_lt_of_le hb (za HJ2).b.size
     have hsz:=(za HJ2).z
     generalize (es.take j).foldl cntM T0 = T at HNE HJ2
     clear hje hre
     go_wp2_with fail
     refine zo (RYA (fun f=>{ tmps:=#[.slice (some ⟨b,off,none⟩) gl.length cap,.agg #[.int .i64 next,.slice aq l.length cq],undef,.pointer (some ⟨w.heap.size,0,none⟩),.pointer (some ⟨w.heap.size + 1,0,none⟩),.pointer (some ⟨w.heap.size + 1 + 1,0,none⟩),.int .i64 k,.int .i64 j,.slice (some ⟨b,off,none⟩) gl.length cap,.int .i64 gl.length,.agg #[.int .i64 gl.length,.int .i64 0,.int .i64 0,.int .i64 0,.int .i64 0,.int .i64 0,.int .i64 0,.int .i64 0],.int .i64 k,.slice (some ⟨b,off,none⟩) gl.length cap,.int .i64 gl.length,.bool true,u15,u16,.int .i64 j,.slice (some ⟨b,off,none⟩) gl.length cap,.int .i64 k,.pointer (some ⟨b,off + k,none⟩),.slice (some ⟨b',off',none⟩) es.length ce,.int .i64 es.length,.bool true,u24,u25,f 0,f 1,f 2,f 3,f 4,f 5,f 6,f 7,f 8,undef,undef,undef,undef,undef,undef,undef,undef],defers:=[] }) (CV [.agg #[.int .i64 T.gr,.int .i64 T.ac,.int .i64 T.rf,.int .i64 T.tr,.int .i64 T.vo,.int .i64 T.no,.int .i64 T.li,.int .i64 T.le],.slice (some ⟨b,off,none⟩) gl.length cap,.int .i64 k,.pointer (some ⟨b,off + k,none⟩),.slice (some ⟨b',off',none⟩) es.length ce,.int .i64 j,.pointer (some ⟨b',off' + j * 14,none⟩),.agg #[.int .i64 e.kind,.int .i64 e.cmd.k,.int .i64 e.cmd.s,.int .i64 e.cmd.t,.int .i64 e.cmd.l,.int .i64 e.cmd.q,.int .i64 e.cmd.i,.float .f64 e.cmd.p,.string e.cmd.g,.int .i64 e.id,.int .i64 e.other,.int .i64 e.qty,.int .i64 e.price,.int .i64 e.reason],.agg #[.int .i64 (cntM T e).gr,.int .i64 (cntM T e).ac,.int .i64 (cntM T e).rf,.int .i64 (cntM T e).tr,.int .i64 (cntM T e).vo,.int .i64 (cntM T e).no,.int .i64 (cntM T e).li,.int .i64 (cntM T e).le]]) 9 (fun _ W=>∃ V,Below wr.heap.size wr V∧W = V.setCells (w.heap.size + 1 + 1) 0 (cntM T e).vs) wr) (by kernel_rfl) ?_ ?_ ?_
     ·exact ⟨fun j=>([u26,u27,u28,u29,u30,u31,u32,u33,u34]:List Value)[j]?.getD undef,rfl,ry_start (by decide)⟩
     ·rintro x A V ⟨f,rfl,hR⟩ hx hrd
      have hallx:=zab hrd hx (acyc _ (by kernel_rfl))
      obtain ⟨V2,hb2,eV⟩:=hR.m (hallx 9 (by simp))
      dsimp only
      generalize f 0 = v0
      generalize f 1 = v1
      generalize f 2 = v2
      generalize f 3 = v3
      generalize f 4 = v4
      generalize f 5 = v5
      generalize f 6 = v6
      generalize f 7 = v7
      generalize f 8 = v8
      have HJ3:Hid (JT w [.int .i64 next,.slice aq l.length cq] V (cntM T e)):=by rw [eV]; exact jt_step (za HJ2) hb2
      clear eV hb2 hR hallx hrd hx HRE gc
      go_wp2_with fail
      go_roundw
      case rel=>exact ⟨j + 1,by omega,by go_num,by rw [za HNE]; exact za HJ3⟩
      case measure=>simp [intOf]; omega
     ·rintro x A V i op ⟨f,rfl,hR⟩ hcl hx ho hxi hall
      have HRR:=hide hR
      match i,ho with
      | 0,ho =>
       obtain rfl:=Option.some.inj ho
       have hn:x[9]? = some false:=zx hcl 12 0 9 (by kernel_rfl) hx (by simp) hxi
       have hbV:=hR.b hn
       have y0:=zb (za HJ2).r hbV (by omega) 0 _ rfl
       have y1:=zb (za HJ2).r hbV (by omega) 1 _ rfl
       have y2:=zb (za HJ2).r hbV (by omega) 2 _ rfl
       have y3:=zb (za HJ2).r hbV (by omega) 3 _ rfl
       have y4:=zb (za HJ2).r hbV (by omega) 4 _ rfl
       have y5:=zb (za HJ2).r hbV (by omega) 5 _ rfl
       have y6:=zb (za HJ2).r hbV (by omega) 6 _ rfl
       have y7:=zb (za HJ2).r hbV (by omega) 7 _ rfl
       clear hall hR hcl
       rw [if_pos (by rfl)]
       unfold Oper.wp
       go_simp
       exact ⟨upd f 0 (.agg #[.int .i64 T.gr,.int .i64 T.ac,.int .i64 T.rf,.int .i64 T.tr,.int .i64 T.vo,.int .i64 T.no,.int .i64 T.li,.int .i64 T.le]),by simp [upd],zU (za HRR) 0 _ hn (by decide) rfl⟩
      | 1,ho =>
       obtain rfl:=Option.some.inj ho
       have hn:x[9]? = some false:=zx hcl 12 1 9 (by kernel_rfl) hx (by simp) hxi
       clear hall hR hcl
       rw [if_pos (by rfl)]
       unfold Oper.wp
       go_simp
       exact ⟨upd f 1 (.slice (some ⟨b,off,none⟩) gl.length cap),by simp [upd],zU (za HRR) 1 _ hn (by decide) rfl⟩
      | 2,ho =>
       obtain rfl:=Option.some.inj ho
       have hn:x[9]? = some false:=zx hcl 12 2 9 (by kernel_rfl) hx (by simp) hxi
       clear hall hR hcl
       rw [if_pos (by rfl)]
       unfold Oper.wp
       go_simp
       exact ⟨upd f 2 (.int .i64 k),by simp [upd],zU (za HRR) 2 _ hn (by decide) rfl⟩
      | 3,ho =>
       obtain rfl:=Option.some.inj ho
       have hn:x[9]? = some false:=zx hcl 12 3 9 (by kernel_rfl) hx (by simp) hxi
       have g1:f 1 = .slice (some ⟨b,off,none⟩) gl.length cap:=(Option.some.inj (hR.c hn 1 (hall ⟨1,.data⟩ (by simp) rfl))).symm
       have g2:f 2 = .int .i64 k:=(Option.some.inj (hR.c hn 2 (hall ⟨2,.data⟩ (by simp) rfl))).symm
       clear hall hR hcl
       rw [if_pos (by rfl)]
       unfold Oper.wp
       go_simp
       exact ⟨upd f 3 (.pointer (some ⟨b,off + k,none⟩)),by simp [upd,g1,g2],zU (za HRR) 3 _ hn (by decide) rfl⟩
      | 4,ho =>
       obtain rfl:=Option.some.inj ho
       have hn:x[9]? = some false:=zx hcl 12 4 9 (by kernel_rfl) hx (by simp) hxi
       have g3:f 3 = .pointer (some ⟨b,off + k,none⟩):=(Option.some.inj (hR.c hn 3 (hall ⟨3,.data⟩ (by simp) rfl))).symm
       have hbV:=hR.b hn
       have y0:=(hbV.cell (p:=⟨b,off + k,none⟩) hbg).trans gc
       clear hall hR hcl
       rw [if_pos (by rfl)]
       unfold Oper.wp
       go_simp
       exact ⟨upd f 4 (.slice (some ⟨b',off',none⟩) es.length ce),by simp [upd,g3],zU (za HRR) 4 _ hn (by decide) rfl⟩
      | 5,ho =>
       obtain rfl:=Option.some.inj ho
       have hn:x[9]? = some false:=zx hcl 12 5 9 (by kernel_rfl) hx (by simp) hxi
       clear hall hR hcl
       rw [if_pos (by rfl)]
       unfold Oper.wp
       go_simp
       exact ⟨upd f 5 (.int .i64 j),by simp [upd],zU (za HRR) 5 _ hn (by decide) rfl⟩
      | 6,ho =>
       obtain rfl:=Option.some.inj ho
       have hn:x[9]? = some false:=zx hcl 12 6 9 (by kernel_rfl) hx (by simp) hxi
       have g4:f 4 = .slice (some ⟨b',off',none⟩) es.length ce:=(Option.some.inj (hR.c hn 4 (hall ⟨4,.data⟩ (by simp) rfl))).symm
       have g5:f 5 = .int .i64 j:=(Option.some.inj (hR.c hn 5 (hall ⟨5,.data⟩ (by simp) rfl))).symm
       clear hall hR hcl
       rw [if_pos (by rfl)]
       unfold Oper.wp
       go_simp
       exact ⟨upd f 6 (.pointer (some ⟨b',off' + j * 14,none⟩)),by simp [upd,g4,g5],zU (za HRR) 6 _ hn (by decide) rfl⟩
      | 7,ho =>
       obtain rfl:=Option.some.inj ho
       have hn:x[9]? = some false:=zx hcl 12 7 9 (by kernel_rfl) hx (by simp) hxi
       have g6:f 6 = .pointer (some ⟨b',off' + j * 14,none⟩):=(Option.some.inj (hR.c hn 6 (hall ⟨6,.data⟩ (by simp) rfl))).symm
       have hbV:=hR.b hn
       obtain ⟨e0,e1,e2,e3,e4,e5,e6,e7,e8,e9,e10,e11,e12,e13⟩:=zal (zb (za HRE) hbV hbw)
       clear hall hR hcl
       rw [if_pos (by rfl)]
       unfold Oper.wp
       go_simp
       exact ⟨upd f 7 (.agg #[.int .i64 e.kind,.int .i64 e.cmd.k,.int .i64 e.cmd.s,.int .i64 e.cmd.t,.int .i64 e.cmd.l,.int .i64 e.cmd.q,.int .i64 e.cmd.i,.float .f64 e.cmd.p,.string e.cmd.g,.int .i64 e.id,.int .i64 e.other,.int .i64 e.qty,.int .i64 e.price,.int .i64 e.reason]),by simp [upd,g6],zU (za HRR) 7 _ hn (by decide) rfl⟩
      | 8,ho =>
       obtain rfl:=Option.some.inj ho
       have hn:x[9]? = some false:=zx hcl 12 8 9 (by kernel_rfl) hx (by simp) hxi
       have g0:f 0 = .agg #[.int .i64 T.gr,.int .i64 T.ac,.int .i64 T.rf,.int .i64 T.tr,.int .i64 T.vo,.int .i64 T.no,.int .i64 T.li,.int .i64 T.le]:=(Option.some.inj (hR.c hn 0 (hall ⟨0,.data⟩ (by simp) rfl))).symm
       have g7:f 7 = .agg #[.int .i64 e.kind,.int .i64 e.cmd.k,.int .i64 e.cmd.s,.int .i64 e.cmd.t,.int .i64 e.cmd.l,.int .i64 e.cmd.q,.int .i64 e.cmd.i,.float .f64 e.cmd.p,.string e.cmd.g,.int .i64 e.id,.int .i64 e.other,.int .i64 e.qty,.int .i64 e.price,.int .i64 e.reason]:=(Option.some.inj (hR.c hn 7 (hall ⟨7,.data⟩ (by simp) rfl))).symm
       have hbV:=hR.b hn
       clear hall hR hcl
       rw [if_pos (by rfl)]
       unfold Oper.wp
       go_simp
       refine (l04Count_any T e V).mono ?_
       rintro r w4 ⟨rfl,hb4⟩
       exact ⟨upd f 8 (.agg #[.int .i64 (cntM T e).gr,.int .i64 (cntM T e).ac,.int .i64 (cntM T e).rf,.int .i64 (cntM T e).tr,.int .i64 (cntM T e).vo,.int .i64 (cntM T e).no,.int .i64 (cntM T e).li,.int .i64 (cntM T e).le]),by simp [upd,g0,g7],zU (ry_grow (fun _ _ _ _ _ h=>h) (za HRR) hn hb4) 8 _ hn (by decide) rfl⟩
      | 9,ho =>
       obtain rfl:=Option.some.inj ho
       have hn:x[9]? = some false:=hxi
       have g8:f 8 = .agg #[.int .i64 (cntM T e).gr,.int .i64 (cntM T e).ac,.int .i64 (cntM T e).rf,.int .i64 (cntM T e).tr,.int .i64 (cntM T e).vo,.int .i64 (cntM T e).no,.int .i64 (cntM T e).li,.int .i64 (cntM T e).le]:=(Option.some.inj (hR.c hn 8 (hall ⟨8,.data⟩ (by simp) rfl))).symm
       have hbV:=hR.b hn
       have hth:=zf (za HJ2).t hbV (by omega)
       obtain ⟨y0,z0,q0⟩:=zc hth (j:=0) (by omega)
       obtain ⟨y1,z1,q1⟩:=zc hth (j:=1) (by omega)
       obtain ⟨y2,z2,q2⟩:=zc hth (j:=2) (by omega)
       obtain ⟨y3,z3,q3⟩:=zc hth (j:=3) (by omega)
       obtain ⟨y4,z4,q4⟩:=zc hth (j:=4) (by omega)
       obtain ⟨y5,z5,q5⟩:=zc hth (j:=5) (by omega)
       obtain ⟨y6,z6,q6⟩:=zc hth (j:=6) (by omega)
       obtain ⟨y7,z7,q7⟩:=zc hth (j:=7) (by omega)
       clear hth
       clear hall hR hcl
       rw [if_pos (by rfl)]
       unfold Oper.wp
       go_simp
       exact ⟨f,by simp [g8],ry_writeN (za HRR) hn ⟨V,hbV,rfl⟩⟩
      | i + 10,ho=>simp at ho
    ·have hjl':¬ (j:Int) < es.length:=by omega
     rw [List.take_of_length_le (by omega)] at HJ2
     go_wp2_with fail
     go_roundw
     case rel=>exact ⟨k + 1,by omega,by go_num,by rw [za HNX]; exact za HJ2⟩
     case measure=>simp [intOf]; omega
  ·have hlt':¬ (k:Int) < gl.length:=by omega
   rw [List.take_of_length_le (by omega)] at hin
   go_wp2_with fail
   refine za HK1 _ _ ?_
   clear HK1 hlt hlt'
   generalize totG { tot0 with gr:=gl.length } gl = T at HTM hin
   have HJ2:=hide (za hin)
   clear hin
   have k0:wr.cell? ⟨w.heap.size,0,none⟩ = some (.int .i64 next):=(za HJ2).k 0 _ rfl
   have k1:wr.cell? ⟨w.heap.size,1,none⟩ = some (.slice aq l.length cq):=(za HJ2).k 1 _ rfl
   have HLV:=hide (l04Live_any next (.slice aq l.length cq) l wr (zl (za HR) (za HJ2).b (Nat.le_refl _)))
   generalize livS l = LV at HLV HTM
   refine wp_seq_k fun K hK=>?_
   have HK1:=hide hK
   clear hK
   go_wp2_with fail
   refine (za HLV).mono ?_
   rintro r w4 ⟨rfl,hb4⟩
   clear k0 k1
   have HJ4:=hide (jt_below (za HJ2) hb4)
   clear hb4
   obtain ⟨y6,z6,q6⟩:=zc (za HJ4).t (j:=6) (by omega)
   obtain ⟨y7,z7,q7⟩:=zc (za HJ4).t (j:=7) (by omega)
   go_wp2_with fail
   refine za HK1 _ _ ?_
   clear HK1 z6 q6 z7 q7
   have HJ5:=hide (jt_set (za HJ4) l.length LV)
   generalize (w4.setCell ⟨w.heap.size + 1 + 1,6,none⟩ (.int .i64 l.length)).setCell ⟨w.heap.size + 1 + 1,7,none⟩ (.int .i64 LV) = V at HJ5 ⊢
   obtain ⟨tgr,tac,trf,ttr,tvo,tno,tli,tle⟩:=T
   simp only at HTM HJ5
   have c0:V.cell? ⟨w.heap.size + 1 + 1,0,none⟩ = some (.int .i64 tgr):=(za HJ5).r 0 _ rfl
   obtain ⟨y0,z0,q0⟩:=zc (za HJ5).o (j:=0) (by omega)
   have c1:V.cell? ⟨w.heap.size + 1 + 1,1,none⟩ = some (.int .i64 tac):=(za HJ5).r 1 _ rfl
   obtain ⟨y1,z1,q1⟩:=zc (za HJ5).o (j:=1) (by omega)
   have c2:V.cell? ⟨w.heap.size + 1 + 1,2,none⟩ = some (.int .i64 trf):=(za HJ5).r 2 _ rfl
   obtain ⟨y2,z2,q2⟩:=zc (za HJ5).o (j:=2) (by omega)
   have c3:V.cell? ⟨w.heap.size + 1 + 1,3,none⟩ = some (.int .i64 ttr):=(za HJ5).r 3 _ rfl
   obtain ⟨y3,z3,q3⟩:=zc (za HJ5).o (j:=3) (by omega)
   have c4:V.cell? ⟨w.heap.size + 1 + 1,4,none⟩ = some (.int .i64 tvo):=(za HJ5).r 4 _ rfl
   obtain ⟨y4,z4,q4⟩:=zc (za HJ5).o (j:=4) (by omega)
   have c5:V.cell? ⟨w.heap.size + 1 + 1,5,none⟩ = some (.int .i64 tno):=(za HJ5).r 5 _ rfl
   obtain ⟨y5,z5,q5⟩:=zc (za HJ5).o (j:=5) (by omega)
   have c6:V.cell? ⟨w.heap.size + 1 + 1,6,none⟩ = some (.int .i64 l.length):=(za HJ5).r 6 _ rfl
   obtain ⟨y6,z6,q6⟩:=zc (za HJ5).o (j:=6) (by omega)
   have c7:V.cell? ⟨w.heap.size + 1 + 1,7,none⟩ = some (.int .i64 LV):=(za HJ5).r 7 _ rfl
   obtain ⟨y7,z7,q7⟩:=zc (za HJ5).o (j:=7) (by omega)
   have HR8:=hide (World.rangeAt_setCells_same V (w.heap.size + 1) 0 [.int .i64 tgr,.int .i64 tac,.int .i64 trf,.int .i64 ttr,.int .i64 tvo,.int .i64 tno,.int .i64 l.length,.int .i64 LV] (fun j hj=>(za HJ5).o j hj))
   have HB8:=hide (zm (w.heap.size + 1) (by omega) [.int .i64 tgr,.int .i64 tac,.int .i64 trf,.int .i64 ttr,.int .i64 tvo,.int .i64 tno,.int .i64 l.length,.int .i64 LV] 0 V (za HJ5).b)
   go_wp2_with fail
   change bodyPost _ _ _ _ _ (V.setCells (w.heap.size + 1) 0 [.int .i64 tgr,.int .i64 tac,.int .i64 trf,.int .i64 ttr,.int .i64 tvo,.int .i64 tno,.int .i64 l.length,.int .i64 LV])
   generalize V.setCells (w.heap.size + 1) 0 [.int .i64 tgr,.int .i64 tac,.int .i64 trf,.int .i64 ttr,.int .i64 tvo,.int .i64 tno,.int .i64 l.length,.int .i64 LV] = WE at HR8 HB8 ⊢
   have d0:WE.cell? ⟨w.heap.size + 1,0,none⟩ = some (.int .i64 tgr):=za HR8 0 _ rfl
   have d1:WE.cell? ⟨w.heap.size + 1,1,none⟩ = some (.int .i64 tac):=za HR8 1 _ rfl
   have d2:WE.cell? ⟨w.heap.size + 1,2,none⟩ = some (.int .i64 trf):=za HR8 2 _ rfl
   have d3:WE.cell? ⟨w.heap.size + 1,3,none⟩ = some (.int .i64 ttr):=za HR8 3 _ rfl
   have d4:WE.cell? ⟨w.heap.size + 1,4,none⟩ = some (.int .i64 tvo):=za HR8 4 _ rfl
   have d5:WE.cell? ⟨w.heap.size + 1,5,none⟩ = some (.int .i64 tno):=za HR8 5 _ rfl
   have d6:WE.cell? ⟨w.heap.size + 1,6,none⟩ = some (.int .i64 l.length):=za HR8 6 _ rfl
   have d7:WE.cell? ⟨w.heap.size + 1,7,none⟩ = some (.int .i64 LV):=za HR8 7 _ rfl
   refine bodyPost_ret (by simp [results,Tryz.results23,go_sem,d0,d1,d2,d3,d4,d5,d6,d7]; try rfl) rfl ?_
   exact ⟨by rw [za HTM],za HB8⟩
def toldE (e:Ev):Cm:=if e.kind = 1 then e.cmd else if e.kind = 2 then e.cmd else if e.kind = 6 then ⟨2,0,0,0,0,e.id,0,⟨#[]⟩⟩ else if e.kind = 7 then ⟨3,0,0,0,e.qty,e.id,0,⟨#[]⟩⟩ else if e.kind = 8 then ⟨4,0,0,0,0,0,0,⟨#[]⟩⟩ else zCm
def zbI (k:Int):Bool:=(k == 1) || ((k == 2) || ((k == 6) || ((k == 7) || (k == 8))))
set_option maxRecDepth 100000 in
set_option maxHeartbeats 3200000 in
theorem toldCmd_all (e:Ev) (w:World):Calls Tryz.prog 26 #[evV e] w fun r w'=>r = .returned (.tuple #[cmV (toldE e),.bool (zbI e.kind)])∧Below w.heap.size w w':=by
 have hsf:=sfl
 obtain ⟨kind,⟨ck,cs,ct,cl,cq,ci,cp,cg⟩,id,other,qty,price,reason⟩:=e
 unfold evV toldE cmV zCm zbI
 simp only
 by_cases hk:kind = 1 ∨ kind = 2 ∨ kind = 6 ∨ kind = 7 ∨ kind = 8
 ·rcases hk with rfl | rfl | rfl | rfl | rfl
  all_goals
   simp
   go_enter Tryz.func26,Tryz.ntmps26
   go_wp2_with fail
   go_returns
   exact ⟨rfl,by go_grown⟩
 ·have h1:(kind == 1) = false:=by simp; omega
  have h2:(kind == 2) = false:=by simp; omega
  have h6:(kind == 6) = false:=by simp; omega
  have h7:(kind == 7) = false:=by simp; omega
  have h8:(kind == 8) = false:=by simp; omega
  rw [if_neg (by omega),if_neg (by omega),if_neg (by omega),if_neg (by omega),if_neg (by omega),h1,h2,h6,h7,h8]
  clear hk
  simp
  go_enter Tryz.func26,Tryz.ntmps26
  go_wp2_with fail
  go_returns
  exact ⟨rfl,by go_grown⟩

theorem stE_lenT {next:Int} {l:List Od} {c:Cm} (hg:GoodL l):(stE next l c).length ≤ 100:=by
 have hl:=hg.len
 rw [stE]
 split
 ·split
  ·have h1:=zcb (c:=c) (id:=next) 21 l c.q []
   rw [accE]
   simp only [List.length_append,List.length_cons,List.length_nil] at h1 ⊢
   split <;> simp <;> omega
  ·split
   ·split <;> simp
   ·split
    ·simp
    ·have h1:(l.filter dyB).length ≤ 20:=Nat.le_trans (List.length_filter_le _ _) hl
     simp only [List.length_cons,List.length_map]; omega
 ·simp
theorem run_lenT (cs:List Cm):∀ k,k ≤ cs.length→(runS (cs.take k)).g.length = k:=by
 intro k
 induction k with
 | zero=>intro _; simp [runS]
 | succ k ih =>
  intro hk
  obtain ⟨c,hc⟩:∃ c,cs[k]? = some c:=⟨_,List.getElem?_eq_getElem (by omega)⟩
  rw [zcf cs hc]
  show ((runS (cs.take k)).g ++ [_]).length = k + 1
  rw [List.length_append,ih (by omega)]; rfl
theorem run_group (cs:List Cm):∀ k,k ≤ cs.length→∀ i,i < k→∃ c,cs[i]? = some c∧(runS (cs.take k)).g[i]? = some (stE (runS (cs.take i)).n (runS (cs.take i)).l c):=by
 intro k
 induction k with
 | zero=>intro _ i hi; omega
 | succ k ih =>
  intro hk i hi
  obtain ⟨c,hc⟩:∃ c,cs[k]? = some c:=⟨_,List.getElem?_eq_getElem (by omega)⟩
  have hl:=run_lenT cs k (by omega)
  rw [zcf cs hc]
  by_cases h:i < k
  ·obtain ⟨d,h1,h2⟩:=ih (by omega) i h
   refine ⟨d,h1,?_⟩
   show ((runS (cs.take k)).g ++ [_])[i]? = _
   rw [List.getElem?_append_left (by omega)]
   exact h2
  ·obtain rfl:i = k:=by omega
   refine ⟨c,hc,?_⟩
   show ((runS (cs.take i)).g ++ [_])[i]? = _
   rw [List.getElem?_append_right (by omega),hl]
   simp
def tolL:List (List Ev)→Option (List Cm)
 | []=>some []
 | [] :: _=>none
 | (e :: _) :: gs=>if zbI e.kind = true then (tolL gs).map (toldE e :: ·) else none







end Go.Proofs.YtopjoogdpjaocaaGreat
namespace Go.Proofs.YtopjoogdpjaocaaGreat
open Go Ieee

end Go.Proofs.YtopjoogdpjaocaaGreat
namespace Go.Proofs.YtopjoogdpjaocaaGreat
open Go.RowKit Ieee
set_option linter.unusedVariables false

end Go.Proofs.YtopjoogdpjaocaaGreat
