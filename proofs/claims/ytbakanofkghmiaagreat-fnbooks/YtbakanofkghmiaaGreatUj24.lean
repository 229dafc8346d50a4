/-
  A script of commands drawn out of the source, and out of a code: proved by walking the functions.
-/
import Derived.Test.YtbakanofkghmiaaGreatUj23
set_option linter.unusedVariables false
set_option maxHeartbeats 6400000
set_option maxRecDepth 100000
namespace Go.Proofs.YtbakanofkghmiaaGreat
open Go.RowKit
theorem Tryz.infoCmdD:(Tryz.prog.info? 43).map (fun i=>(i.zero,i.size,i.bytes)) = some (some (.agg (yv 0 0 0 0 0 0 0 ⟨#[]⟩).toArray),8,72):=by kernel_rfl
theorem cells_srcD (w:World) (cs:List Value) (t:TypeId) (j:Nat) (u:Value) (h:cs[j]? = some u):(w.alloc (Obj.cells cs.toArray t)).cell? (((yp w 0):Addr).add j) = some u:=by
 rw [Addr.add_mid,cell_of_row _ w.heap.size (0 + j) cs.toArray t (0,0) (heap_alloc_new w _)]
 simpa using h
theorem gr_newD {w wr w2:World} {B:Nat} {row:Option Nat} (h:w.grownBy wr (some B)) (hg:wr.grownBy w2 row) (hr:∀ k,row = some k→w.heap.size ≤ k):w.grownBy w2 (some B) :=
 ⟨hg.os.trans h.os,hg.tape.trans h.tape,hg.output.trans h.output,yL h.size hg.size,
  fun i hi xA=>(hg.block i (yH hi h.size) (fun e=>by have:=hr i e.symm; omega)).trans (h.block i hi xA)⟩
theorem dW {W:World} {B e z n:Nat} {v:Value} {xs:List Value} (h:W.ownsRow B e z v n xs):∃ a A,v = .slice a n A:=by
 rcases h.2 with ⟨G,D⟩ | ⟨g,A,xp,G,_⟩
 ·exact ⟨none,0,by rw [G,D]⟩
 ·exact ⟨_,_,G⟩
theorem own_baseD {W:World} {B B' e z n:Nat} {v:Value} {xs:List Value} (h:W.ownsRow B e z v n xs) (hB:B' ≤ B):W.ownsRow B' e z v n xs:=by
 refine ⟨h.1,?_⟩
 rcases h.2 with h | ⟨g,A,xp,G,D,h3⟩
 ·exact .inl h
 ·exact .inr ⟨g,A,xp,G,yL hB D,h3⟩
theorem script_drawn (B:Nat) (v:Value) (l:List Int) (m:Int) (w:World) (h:Src B w v l m) (hm:m ≤ 1000000) :
  Calls Tryz.prog 30 #[I B 0] w fun e w'=>∃ (o:Value) (cs:List Cm),e = yl o∧(∀ c ∈ cs,DrOk c)∧cs.length ≤ 27∧w'.ownsRow w.heap.size 43 8 o cs.length (cs.flatMap Cm.vs)∧w.grownBy w' (some B):=by
 obtain ⟨i0,hi,uF,uK,uV⟩:=info_parts Tryz.infoCmdD
 have HV:=Y (src_far h)
 have HS:=Y h
 have hB:=src_lt h
 clear h
 go_enter Tryz.func30,Tryz.ntmps30
 go_wp2_with fail
 refine (size_any B v l m 24 _ (ch (bL (U HS)) _).1 (by omega) (by omega)).mono ?_
 rintro e w1 ⟨y,rfl,jI,kX,rfl⟩
 have hwr:IntKind.i64.wrap (y + 4) = y + 4:=by rw [IntKind.wrap_i64]; omega
 go_wp2_with fail
 refine (aQ B v l m (y + 4) _ (ch (bL (U HS)) _).1 (by omega) (by omega) (by omega)).mono ?_
 rintro e w1 ⟨j0,rfl,jz,hj1,hE⟩
 have HE:=Y (show aA B w v l (m + 3) w1 from ⟨hE.1,aP (bD w _ _) hE.2⟩)
 have HO:=Y ((World.ownsRow_made (base:=w.heap.size) (e:=43) (size:=8) w #[] 0 hb (by decide) rfl).kept hE.2 (.inr (by simp [Value.ownBlock]; omega)))
 clear hE
 go_wp2_with fail
 go_loopw [3,4] (fun ov iv wr=>∃ (cs:List Cm) (j:Nat),iv = H j∧cs.length + j ≤ 27∧(∀ c ∈ cs,DrOk c)∧wr.ownsRow w.heap.size 43 8 ov cs.length (cs.flatMap Cm.vs)∧Src B wr v l (m + 3 + 100 * cs.length)∧w.grownBy wr (some B)) (fun _ iv _=>(intOf iv).toNat)
 case atStart =>
  obtain ⟨j,rfl⟩:=Int.eq_ofNat_of_zero_le jz
  exact ⟨[],j,rfl,by simp; omega,by simp,U HO,by simpa using (U HE).1,(U HE).2⟩
 case round =>
  obtain ⟨cs,j,rfl,xC,hxs,xN,hsrc,uc⟩:=hrel
  have HX:=Y hxs
  have HOW:=Y xN
  have HSR:=Y hsrc
  have oa:=Y uc
  have xA:Hid (∀ k,k < w.heap.size→u3.ownBlock ≠ some k):=fun k hk e=>by have:=(xN.lt k e).1; omega
  obtain ⟨ao,co,rfl⟩:=dW xN
  clear hxs xN hsrc uc HE HO
  by_cases K:j = 0
  ·subst K
   go_wp2_with fail
   go_ret
   exact ⟨_,cs,rfl,U HX,by omega,U HOW,U oa⟩
  have hj':(0:Int) < j:=by omega
  clear K
  go_wp2_with fail
  refine (cmd_drawn B v l _ cs.length _ (U HSR) (by omega) (by omega) (by omega)).mono ?_
  rintro e w3 ⟨⟨ck,c1,ct,cl,cq,ci,cp,cg⟩,rfl,hcg,hE3⟩
  have HE3:=Y hE3
  have qL:=Y ((U HOW).kept hE3.2 (.inr (U xA B hB)))
  have HCG:Hid (DrOk ⟨ck,c1,ct,cl,cq,ci,cp,cg⟩):=hcg
  clear hE3 hcg
  unfold Cm.vs
  simp only
  have jr:w.heap.size ≤ w3.heap.size:=yL (U oa).size (U HE3).2.size
  go_wp2_with (at_builtin; go_must (refine wpList_append_own _ rfl _ _ 23 rfl w.heap.size 43 i0 _ 8 72 Tryz.underlying23 hi uF uK uV rfl (by decide) _ cs.length (cs.flatMap Cm.vs) rfl ((U qL).alloc _) (yp w3 0) 1 1 (Cm.vs ⟨ck,c1,ct,cl,cq,ci,cp,cg⟩) rfl rfl (cells_srcD w3 _ _) (by simp [Value.oneCell',Cm.vs]) (by unfold maxLen; omega) (by omega) (by simp; omega) ?_); intro v4 w4 jo hg4 _)
  go_roundw
  case rel =>
   refine ⟨cs ++ [⟨ck,c1,ct,cl,cq,ci,cp,cg⟩],j - 1,by go_num,by simp; omega,?_,by simpa using jo,?_,?_⟩
   ·intro x hx
    rcases List.mem_append.1 hx with hx | hx
    ·exact U HX x hx
    ·rw [List.mem_singleton.1 hx]; exact U HCG
   ·refine bp (src_keep (ch (bL (U HE3).1) _).1 hg4 (fun e=>U xA B hB e.symm) (fun hn e=>?_)) (by simp; omega)
    obtain ⟨k,G,D⟩:=U HV hn
    exact U xA k D (e ▸ G)
   ·exact gr_newD (aP (aP (U oa) (U HE3).2) (bD w3 _ _)) hg4 (fun k hk=>((U qL).lt k hk).1)
  case measure=>simp [intOf]; omega
theorem scriptOf_any (v:Value) (l:List Int) (w:World) (h:Rd w v l) (O:Bts l) :
  Calls Tryz.prog 9 #[v] w fun e w'=>∃ (o:Value) (cs:List Cm),e = yl o∧(∀ c ∈ cs,DrOk c)∧cs.length ≤ 27∧w'.ownsRow w.heap.size 43 8 o cs.length (cs.flatMap Cm.vs)∧ym w w':=by
 have HR:=Y h
 have HB:=Y O
 obtain ⟨a,A,rfl,hl,_⟩:=h
 clear O
 go_enter Tryz.func9,Tryz.ntmps9
 go_wp2_with fail
 refine (source_any _ l _ (U HR) (U HB)).mono ?_
 rintro e w1 ⟨rfl,hS,xU⟩
 have HS:=Y hS
 have xW:=Y xU
 clear hS xU
 go_wp2_with fail
 refine (script_drawn _ _ l _ _ (U HS) (by omega)).mono ?_
 rintro e w2 ⟨o,cs,rfl,G,D,h3,hE⟩
 have HX:=Y G
 have HO:=Y h3
 have HE:=Y hE
 clear hE G h3
 go_wp2_with fail
 go_ret
 exact ⟨_,cs,rfl,U HX,D,own_baseD (U HO) (U xW).size,own_below_grown (U xW) hb (U HE)⟩
def fdyF:List Od→Nat→Int
 | [],_=>-1
 | o :: r,k=>if o.life = 1 then k else fdyF r (k + 1)
def fdy (l:List Od):Int:=fdyF l 0
theorem ek (o:Od) (w:World) :
  Calls Tryz.prog 118 #[.agg (yu o.id o.side o.ticks o.left o.life o.tag).toArray] w fun e w'=>e = yl (.bool (o.life == 1))∧ym w w':=by
 obtain ⟨uL,side,ticks,left,life,tag⟩:=o
 simp only
 go_enter Tryz.func118,Tryz.ntmps118
 go_wp2_with fail
 go_ret
 exact ⟨rfl,by go_grown⟩
theorem indexDay_any (v:Value) (l:List Od) (w:World) (hr:RdR Od.vs 6 w v l) :
  Calls Tryz.prog 152 #[v,.func (.func 118) #[] #[]] w fun e w'=>e = yl (H (fdy l))∧ym w w':=by
 obtain ⟨a,A,rfl,xC,hc⟩:=hr
 have xo:∀ (k:Nat) (c:Od),l[k]? = some c→∃ b off,a = some (J b off)∧b < w.heap.size∧w.rangeAt b (off + k * 6) c.vs:=by
  intro k c hk
  obtain ⟨b,off,G,D,h3⟩:=hc (by intro h; rw [h] at hk; simp at hk)
  exact ⟨b,off,G,D,h3 k c hk⟩
 have HC:=Y xo
 clear xo hc
 go_enter Tryz.func152,Tryz.ntmps152
 go_wp2_with fail
 go_loopw [8] (fun iv wr=>∃ (k:Nat),k ≤ l.length∧iv = H k∧Hid (fdy l = fdyF (l.drop k) k)∧ym w wr) (fun iv _=>l.length - (intOf iv).toNat)
 case atStart=>exact ⟨0,Nat.zero_le _,rfl,rfl,Below.refl _ _⟩
 case round =>
  obtain ⟨k,hk,rfl,jp,xh⟩:=hrel
  have HB:=Y xh
  clear xh
  by_cases xI:k < l.length
  ·obtain ⟨c,uJ⟩:∃ c,l[k]? = some c:=⟨_,yF xI⟩
   have HP:Hid (fdy l = if c.life = 1 then (k:Int) else fdyF (l.drop (k + 1)) (k + 1)):=by
    have:=U jp
    rw [drop_get uJ] at this
    exact this
   obtain ⟨b,off,rfl,O,X⟩:=U HC k c uJ
   obtain ⟨g0,g1,g2,g3,g4,g5⟩:=zz (zb X (U HB) O)
   have uu:(k:Int) < l.length:=by omega
   clear uJ X O jp
   go_wp2_with fail
   refine (ek c wr).mono ?_
   rintro e w3 ⟨rfl,uw⟩
   have xP:=Y (eE (U HB) uw)
   clear uw
   by_cases qG:c.life = 1
   ·have O:(c.life == 1) = true:=by simpa using qG
    have HK:Hid (fdy l = k):=by have:=U HP; rw [if_pos qG] at this; exact this
    clear qG
    go_wp2_with fail
    go_ret
    exact ⟨zv (U HK).symm,U xP⟩
   ·have O:(c.life == 1) = false:=by simpa using qG
    have HK:Hid (fdy l = fdyF (l.drop (k + 1)) (k + 1)):=by have:=U HP; rw [if_neg qG] at this; exact this
    clear qG
    go_wp2_with fail
    go_roundw
    case rel=>exact ⟨k + 1,by omega,by go_num,U HK,U xP⟩
    case measure=>simp [intOf]; omega
  ·have HK:Hid (fdy l = -1):=by
    have h:=U jp
    rw [yY (by omega)] at h
    exact h
   go_wp2_with fail
   go_ret
   exact ⟨zv (U HK).symm,U HB⟩
theorem zc {W:World} {b n j:Nat} (h:W.there b 0 n) (K:j < n):∃ u,W.cell? (J b j) = some u∧W.frozen? (J b j) = false:=by
 obtain ⟨G,D⟩:=h j K
 rw [Nat.zero_add] at G D
 obtain ⟨u,hu⟩:=Option.isSome_iff_exists.1 G
 exact ⟨u,hu,D⟩
theorem bH {x:List Bool} {n j:Nat} (hx:x.length = n) (K:j < n):x[j]? = some false ∨ x[j]? = some true:=by
 rw [yF (by omega)]
 cases x[j] <;> simp
def DE (mb B:Nat) (W0:World) (vo:Value) (ts:List Ev) (e:Ev) (p q:Prop) (V:World):Nat→Value→Prop
 | 0,v=>v = I mb 0
 | 1,v=>v = I mb 0
 | 2,v=>v = I mb 0
 | 3,v=>v = I mb 11
 | 4,v=>v = vo
 | 5,v=>v = .agg (yt e.kind e.cmd.k e.cmd.s e.cmd.t e.cmd.l e.cmd.q e.cmd.i e.cmd.p e.cmd.g e.id e.other e.qty e.price e.reason).toArray
 | 6,v=>∃ s,v = .slice (some (J s 0)) 1 1∧(¬ p→∀ j u,e.vs[j]? = some u→V.cell? (((J s 0):Addr).add j) = some u)
 | 7,v=>∃ a c,v = .slice a (ts.length + 1) c∧p∧(¬ q→ERow V B v (ts ++ [e])∧W0.grownBy V vo.ownBlock)∧(q→V.cell? (J mb 11) = some v∧ERow V B v (ts ++ [e])∧TookAt mb 10 vo.ownBlock W0 V)
 | 8,v=>v = I mb 0
 | 9,v=>v = I mb 11
 | _,_=>True
section
variable {mb B:Nat} {W0 V V':World} {vo:Value} {ts:List Ev} {e:Ev} {p q:Prop}
theorem de_alloc {o:Obj} (hp:¬ p):∀ j v,DE mb B W0 vo ts e p q V j v→DE mb B W0 vo ts e p q (V.alloc o) j v:=by
 intro j v h
 match j with
 | 0 | 1 | 2 | 3 | 4 | 5 | 8 | 9=>exact h
 | 6 =>
  obtain ⟨s,G,D⟩:=h
  exact ⟨s,G,fun hp j u hu=>(yT _ _ _ (yI V _ (D hp j u hu))).trans (D hp j u hu)⟩
 | 7=>obtain ⟨_,_,_,D,_⟩:=h; exact absurd D hp
 | j + 10=>trivial
theorem de_one:∀ j v,j ≠ 7→DE mb B W0 vo ts e False False V j v→DE mb B W0 vo ts e True False V' j v:=by
 intro j v K h
 match j with
 | 0 | 1 | 2 | 3 | 4 | 5 | 8 | 9=>exact h
 | 6 =>
  obtain ⟨s,G,D⟩:=h
  exact ⟨s,G,fun hp=>absurd trivial hp⟩
 | 7=>exact absurd rfl K
 | j + 10=>trivial
theorem de_two {v:Value}:∀ j,j ≠ 10→DE mb B W0 vo ts e True False V j v→(j = 7→DE mb B W0 vo ts e True True V' 7 v)→DE mb B W0 vo ts e True True V' j v:=by
 intro j K h h7
 match j with
 | 0 | 1 | 2 | 3 | 4 | 5 | 8 | 9=>exact h
 | 6 =>
  obtain ⟨s,G,D⟩:=h
  exact ⟨s,G,fun hp=>absurd trivial hp⟩
 | 7=>exact h7 rfl
 | j + 10=>trivial
end
theorem tell_any (mb B:Nat) (vo:Value) (ts:List Ev) (e:Ev) (w:World) (c11:w.cell? (J mb 11) = some vo) (f11:w.frozen? (J mb 11) = false) (vp:∃ xp,w.heap[mb]? = some (.cells xp 71 (0,0)))
  (jU:ERow w B vo ts) (hB:B ≤ w.heap.size) (hn:ts.length ≤ 1000) :
  Calls Tryz.prog 65 #[I mb 0,.agg (yt e.kind e.cmd.k e.cmd.s e.cmd.t e.cmd.l e.cmd.q e.cmd.i e.cmd.p e.cmd.g e.id e.other e.qty e.price e.reason).toArray] w fun r w'=>∃ qr,r = yl (.tuple #[])∧w'.cell? (J mb 11) = some qr∧ERow w' B qr (ts ++ [e])∧TookAt mb 10 vo.ownBlock w w':=by
 obtain ⟨i0,uE,uF,uK,uV⟩:=info_parts infoEv
 have qH:some mb ≠ vo.ownBlock:=zl jU vp (by decide)
 have qB:mb < w.heap.size:=yI w _ c11
 have xU:=eB w (N (yt e.kind e.cmd.k e.cmd.s e.cmd.t e.cmd.l e.cmd.q e.cmd.i e.cmd.p e.cmd.g e.id e.other e.qty e.price e.reason).toArray 46)
 have xW:=Y xU
 have xz:w.heap.size < (w.alloc (N (yt e.kind e.cmd.k e.cmd.s e.cmd.t e.cmd.l e.cmd.q e.cmd.i e.cmd.p e.cmd.g e.id e.other e.qty e.price e.reason).toArray 46)).heap.size:=by rw [zf]; omega
 have jt:Hid (World.rangeAt (w.alloc (N (yt e.kind e.cmd.k e.cmd.s e.cmd.t e.cmd.l e.cmd.q e.cmd.i e.cmd.p e.cmd.g e.id e.other e.qty e.price e.reason).toArray 46)) w.heap.size 0 e.vs):=zg w e.vs _
 have vS:Hid (World.cell? (w.alloc (N (yt e.kind e.cmd.k e.cmd.s e.cmd.t e.cmd.l e.cmd.q e.cmd.i e.cmd.p e.cmd.g e.id e.other e.qty e.price e.reason).toArray 46)) (J mb 11) = some vo):=(xU.cell (p:=(J mb 11)) qB).trans c11
 have qK:Hid (World.frozen? (w.alloc (N (yt e.kind e.cmd.k e.cmd.s e.cmd.t e.cmd.l e.cmd.q e.cmd.i e.cmd.p e.cmd.g e.id e.other e.qty e.price e.reason).toArray 46)) (J mb 11) = false):=(World.frozen?_of_block (a:=(J mb 11)) (xU.block mb qB)).trans f11
 have uy:Hid (∃ xp,(w.alloc (N (yt e.kind e.cmd.k e.cmd.s e.cmd.t e.cmd.l e.cmd.q e.cmd.i e.cmd.p e.cmd.g e.id e.other e.qty e.price e.reason).toArray 46)).heap[mb]? = some (.cells xp 71 (0,0))):=by obtain ⟨xp,hc⟩:=vp; exact ⟨xp,(xU.block mb qB).trans hc⟩
 have jP:=Y (zI jU xU)
 clear c11 f11 vp jU xU
 go_enter Tryz.func65,Tryz.ntmps65
 refine eF fun hj xq=>?_
 go_wp2_with fail
 refine U xq _ _ ?_
 clear xq
 generalize (w.alloc (N (yt e.kind e.cmd.k e.cmd.s e.cmd.t e.cmd.l e.cmd.q e.cmd.i e.cmd.p e.cmd.g e.id e.other e.qty e.price e.reason).toArray 46)) = xm at xW xz jt vS qK uy jP ⊢
 have hBX:B ≤ xm.heap.size:=by omega
 have jW:mb < xm.heap.size:=by omega
 refine zi (RT (fun V=>ym xm V) (fun f=>{ tmps:=#[I mb 0,.agg (yt e.kind e.cmd.k e.cmd.s e.cmd.t e.cmd.l e.cmd.q e.cmd.i e.cmd.p e.cmd.g e.id e.other e.qty e.price e.reason).toArray,M,yn w 0,f 0,f 1,f 2,f 3,f 4,f 5,f 6,f 7,f 8,f 9],defers:=[] }) 7 10 (DE mb B xm vo ts e)) (by kernel_rfl) ?_ ?_ ?_
 ·exact ⟨fun _=>M,rfl,fun _=>⟨rfl,rfl,rfl,Nat.le_refl _,fun _ _=>rfl⟩,fun j K=>by rw [yG] at K; split at K <;> simp at K⟩
 ·rintro x xj V ⟨f,rfl,-,hD⟩ hx xL
  have xn:=zW xL hx (acyc _ (by kernel_rfl))
  have k7:x[7]? = some true:=xn 7 (by simp)
  have k10:x[10]? = some true:=xn 10 (by simp)
  obtain ⟨va,vc,-,-,-,vj⟩:=hD 7 k7
  obtain ⟨q1,q2,q3⟩:=vj k10
  have vr:Hid (_∧_∧_):=⟨q1,q2,q3⟩
  clear hD xn xL hx k7 k10 vj q1 q2 q3
  dsimp only
  go_wp2_with fail
  go_end0
  exact ⟨_,rfl,(U vr).1,(U vr).2.1,bQ (bz (aO (U xW) hb) qB qH) (U vr).2.2⟩
 ·rintro x xj V i op ⟨f,rfl,jy,hD⟩ X hx Z xu Q
  have ud:=Y jy
  have HD:=Y hD
  have xk:∀ b o u,xm.cell? (J b o) = some u→¬ x[7]? = some true→V.cell? (J b o) = some u:=fun b o u hu hn7=>((U ud hn7).cell (p:=(J b o)) (yI xm _ hu)).trans hu
  have n7':i < 7→0 < i→¬ x[7]? = some true:=fun xI qm h7=>by
   have h4:=ye X 7 rfl h7 4 rfl
   have h6:=ye X 7 rfl h7 6 rfl
   have h3:=ye X 4 rfl h4 3 rfl
   have h5:=ye X 6 rfl h6 5 rfl
   have D:=ye X 3 rfl h3 2 rfl
   have G:=ye X 2 rfl D 1 rfl
   have uk:∀ j,0 < j→j < 7→x[j]? = some true:=fun j jz K=>by
    rcases (by omega:j = 1 ∨ j = 2 ∨ j = 3 ∨ j = 4 ∨ j = 5 ∨ j = 6) with rfl | rfl | rfl | rfl | rfl | rfl <;> assumption
   rw [uk i qm xI] at xu; cases xu
  have n10':i < 10→¬ x[10]? = some true:=fun xI vT=>by
   have h9:=ye X 10 rfl vT 9 rfl
   have h7:=ye X 10 rfl vT 7 rfl
   have h8:=ye X 9 rfl h9 8 rfl
   have h4:=ye X 7 rfl h7 4 rfl
   have h6:=ye X 7 rfl h7 6 rfl
   have h0:=ye X 8 rfl h8 0 rfl
   have h3:=ye X 4 rfl h4 3 rfl
   have h5:=ye X 6 rfl h6 5 rfl
   have D:=ye X 3 rfl h3 2 rfl
   have G:=ye X 2 rfl D 1 rfl
   have uk:∀ j,j < 10→x[j]? = some true:=fun j K=>by
    rcases (by omega:j = 0 ∨ j = 1 ∨ j = 2 ∨ j = 3 ∨ j = 4 ∨ j = 5 ∨ j = 6 ∨ j = 7 ∨ j = 8 ∨ j = 9) with rfl | rfl | rfl | rfl | rfl | rfl | rfl | rfl | rfl | rfl <;> assumption
   rw [uk i xI] at xu; cases xu
  clear X jy
  match i,Z with
  | 0,Z | 1,Z =>
   obtain rfl:=ya Z
   clear Q hD
   rw [if_pos (by rfl)];unfold Oper.wp;go_simp
   exact ⟨upd f _ (I mb 0),by simp [upd],zx (U HD) (by decide) (by decide) (fun _ _ h=>h) (U ud) rfl⟩
  | 2,Z =>
   obtain rfl:=ya Z
   have g:f 1 = I mb 0:=hD 1 (yd Q 1 rfl)
   clear Q hD
   rw [if_pos (by rfl)];unfold Oper.wp;go_simp
   exact ⟨upd f 2 (I mb 0),by simp [upd,g],zx (U HD) (by decide) (by decide) (fun _ _ h=>h) (U ud) rfl⟩
  | 3,Z =>
   obtain rfl:=ya Z
   have g:f 2 = I mb 0:=hD 2 (yd Q 2 rfl)
   clear Q hD
   rw [if_pos (by rfl)];unfold Oper.wp;go_simp
   exact ⟨upd f 3 (I mb 11),by simp [upd,g],zx (U HD) (by decide) (by decide) (fun _ _ h=>h) (U ud) rfl⟩
  | 4,Z =>
   obtain rfl:=ya Z
   have g:f 3 = I mb 11:=hD 3 (yd Q 3 rfl)
   have n7:=n7' (by omega) (by omega)
   have y1:=xk mb 11 _ (U vS) n7
   clear Q hD
   rw [if_pos (by rfl)];unfold Oper.wp;go_simp
   exact ⟨upd f 4 (vo),by simp [upd,g],zx (U HD) (by decide) (by decide) (fun _ _ h=>h) (U ud) rfl⟩
  | 5,Z =>
   obtain rfl:=ya Z
   have n7:=n7' (by omega) (by omega)
   have y0:=xk w.heap.size 0 _ (U jt 0 _ rfl) n7
   have y1:=xk w.heap.size 1 _ (U jt 1 _ rfl) n7
   have y2:=xk w.heap.size 2 _ (U jt 2 _ rfl) n7
   have y3:=xk w.heap.size 3 _ (U jt 3 _ rfl) n7
   have y4:=xk w.heap.size 4 _ (U jt 4 _ rfl) n7
   have y5:=xk w.heap.size 5 _ (U jt 5 _ rfl) n7
   have y6:=xk w.heap.size 6 _ (U jt 6 _ rfl) n7
   have y7:=xk w.heap.size 7 _ (U jt 7 _ rfl) n7
   have y8:=xk w.heap.size 8 _ (U jt 8 _ rfl) n7
   have y9:=xk w.heap.size 9 _ (U jt 9 _ rfl) n7
   have az:=xk w.heap.size 10 _ (U jt 10 _ rfl) n7
   have y11:=xk w.heap.size 11 _ (U jt 11 _ rfl) n7
   have y12:=xk w.heap.size 12 _ (U jt 12 _ rfl) n7
   have y13:=xk w.heap.size 13 _ (U jt 13 _ rfl) n7
   clear Q hD
   rw [if_pos (by rfl)];unfold Oper.wp;go_simp
   exact ⟨upd f 5 (.agg (yt e.kind e.cmd.k e.cmd.s e.cmd.t e.cmd.l e.cmd.q e.cmd.i e.cmd.p e.cmd.g e.id e.other e.qty e.price e.reason).toArray),by simp [upd],zx (U HD) (by decide) (by decide) (fun _ _ h=>h) (U ud) rfl⟩
  | 6,Z =>
   obtain rfl:=ya Z
   have g:f 5 = .agg (yt e.kind e.cmd.k e.cmd.s e.cmd.t e.cmd.l e.cmd.q e.cmd.i e.cmd.p e.cmd.g e.id e.other e.qty e.price e.reason).toArray:=hD 5 (yd Q 5 rfl)
   have n7:=n7' (by omega) (by omega)
   have xV:=U ud n7
   have hsf:=sfl
   clear Q hD
   rw [if_pos (by rfl)];unfold Oper.wp;go_simp
   refine ⟨upd f 6 (.slice (some (yp V 0)) 1 1),by simp [upd,g],zx (U HD) (by decide) (by decide) (de_alloc n7) (fun _=>xV.alloc xV.size _) ⟨V.heap.size,rfl,fun _=>?_⟩⟩
   exact fun j u h=>bW V e.vs 46 j u h
  | 7,Z =>
   obtain rfl:=ya Z
   have g4:f 4 = vo:=hD 4 (yd Q 4 rfl)
   obtain ⟨s,g6,oj⟩:=hD 6 (yd Q 6 rfl)
   have n7:¬ x[7]? = some true:=by rw [xu]; simp
   have pP:=n10' (by omega)
   have xV:=U ud n7
   have uU:ERow V B vo ts:=zI (U jP) xV
   rw [if_pos (by rfl)]
   refine wp_append_own V (.tmp 8) (.tmp 10) 38 rfl B 46 i0 _ 14 120 Tryz.underlying38 uE uF uK uV rfl (by decide) vo ts.length (ts.flatMap Ev.vs) g4 uU (J s 0) 1 1 e.vs g6 rfl (oj n7) (one_ev e) (by unfold maxLen; omega) (by omega) (by have:=xV.size; omega) ?_
   intro v' w' xN uc _
   obtain ⟨ga,gc,rfl⟩:=dL xN (by omega)
   refine ⟨upd f 7 (.slice (some (J ga 0)) (ts.length + 1) gc),rfl,rt_one (by decide) (U HD) xu pP (fun j v K h=>de_one j v K h) ⟨some (J ga 0),gc,rfl,trivial,fun _=>⟨?_,?_⟩,fun h=>h.elim⟩⟩
   ·show World.ownsRow _ _ _ _ _ (ts ++ [e]).length _
    rw [yN,List.flatMap_append]; simpa using xN
   ·exact (aO xV hb).trans uc
  | 8,Z =>
   obtain rfl:=ya Z
   have g:f 0 = I mb 0:=hD 0 (yd Q 0 rfl)
   clear Q hD
   rw [if_pos (by rfl)];unfold Oper.wp;go_simp
   exact ⟨upd f 8 (I mb 0),by simp [upd,g],zx (U HD) (by decide) (by decide) (fun _ _ h=>h) (U ud) rfl⟩
  | 9,Z =>
   obtain rfl:=ya Z
   have g:f 8 = I mb 0:=hD 8 (yd Q 8 rfl)
   clear Q hD
   rw [if_pos (by rfl)];unfold Oper.wp;go_simp
   exact ⟨upd f 9 (I mb 11),by simp [upd,g],zx (U HD) (by decide) (by decide) (fun _ _ h=>h) (U ud) rfl⟩
  | 10,Z =>
   obtain rfl:=ya Z
   have g9:f 9 = I mb 11:=hD 9 (yd Q 9 rfl)
   have k7:x[7]? = some true:=Q ⟨7,.data⟩ (by simp) rfl
   have pP:¬ x[10]? = some true:=by rw [xu]; simp
   obtain ⟨ga,gc,g7,-,hfa,-⟩:=hD 7 k7
   obtain ⟨jU,uc⟩:=hfa pP
   have y1:=uc.cell (U vS) qH
   have f1:V.frozen? (J mb 11) = false:=(World.frozen?_of_block (a:=(J mb 11)) (uc.block mb jW qH)).trans (U qK)
   have jK:=Y (g7 ▸ jU)
   have pd:Hid (∃ xp,V.heap[mb]? = some (.cells xp 71 (0,0))):=by obtain ⟨xp,hc⟩:=U uy; exact ⟨xp,(uc.block mb jW qH).trans hc⟩
   have oa:=Y uc
   clear Q hD jU uc hfa
   rw [if_pos (by rfl)];unfold Oper.wp;go_simp
   refine ⟨upd f 10 M,by simp [upd,g9,g7],rt_two (by decide) (U HD) k7 xu (fun j K hxj h=>de_two j K h (fun hj7=>?_)) trivial⟩
   subst hj7
   obtain ⟨-,-,-,-,-,-⟩:=h
   refine ⟨ga,gc,g7,trivial,fun h=>absurd trivial h,fun _=>?_⟩
   rw [g7]
   refine ⟨yK _ _ _ y1,zw (U jK) (zl (U jK) (U pd) (by decide)) 11 _,?_⟩
   exact bQ (bz (U oa) jW qH) (cZ (o:=10) _ _)
  | i + 11,Z=>simp at Z
end Go.Proofs.YtbakanofkghmiaaGreat
