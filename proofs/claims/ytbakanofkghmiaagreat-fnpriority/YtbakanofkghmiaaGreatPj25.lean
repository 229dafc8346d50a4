/-
  A script of commands drawn out of the source, and out of a code: proved by walking the functions.
-/
import Derived.Test.YtbakanofkghmiaaGreatPj24
set_option linter.unusedVariables false
set_option maxHeartbeats 6400000
set_option maxRecDepth 100000
namespace Go.Proofs.YtbakanofkghmiaaGreat
open Go.RowKit
theorem Tryz.infoCmdD:(Tryz.prog.info? 43).map (fun i=>(i.zero,i.size,i.bytes)) = some (some (.agg (yu 0 0 0 0 0 0 0 ⟨#[]⟩).toArray),8,72):=by kernel_rfl
theorem cells_srcD (w:World) (cs:List Value) (t:TypeId) (j:Nat) (u:Value) (h:cs[j]? = some u):(w.alloc (Obj.cells cs.toArray t)).cell? (((yn w 0):Addr).add j) = some u:=by
 rw [Addr.add_mid,cell_of_row _ w.heap.size (0 + j) cs.toArray t (0,0) (heap_alloc_new w _)]
 simpa using h
theorem gr_newD {w wr w2:World} {B:Nat} {row:Option Nat} (h:w.grownBy wr (some B)) (hg:wr.grownBy w2 row) (hr:∀ k,row = some k→w.heap.size ≤ k):w.grownBy w2 (some B) :=
 ⟨hg.os.trans h.os,hg.tape.trans h.tape,hg.output.trans h.output,yK h.size hg.size,
  fun i hi xA=>(hg.block i (yG hi h.size) (fun e=>by have:=hr i e.symm; omega)).trans (h.block i hi xA)⟩
theorem own_sliceD {W:World} {B e h1 n:Nat} {v:Value} {xs:List Value} (h:W.ownsRow B e h1 v n xs):∃ a F,v = .slice a n F:=by
 rcases h.2 with ⟨z,K⟩ | ⟨g,F,xp,z,_⟩
 ·exact ⟨none,0,by rw [z,K]⟩
 ·exact ⟨_,_,z⟩
theorem own_baseD {W:World} {B B' e h1 n:Nat} {v:Value} {xs:List Value} (h:W.ownsRow B e h1 v n xs) (hB:B' ≤ B):W.ownsRow B' e h1 v n xs:=by
 refine ⟨h.1,?_⟩
 rcases h.2 with h | ⟨g,F,xp,z,K,h3⟩
 ·exact .inl h
 ·exact .inr ⟨g,F,xp,z,yK hB K,h3⟩
theorem script_drawn (B:Nat) (v:Value) (l:List Int) (m:Int) (w:World) (h:Src B w v l m) (hm:m ≤ 1000000) :
  Calls Tryz.prog 30 #[I B 0] w fun e w'=>∃ (o:Value) (cs:List Cm),e = yk o∧(∀ c ∈ cs,DrOk c)∧cs.length ≤ 27∧w'.ownsRow w.heap.size 43 8 o cs.length (cs.flatMap Cm.vs)∧w.grownBy w' (some B):=by
 obtain ⟨i0,hi,uq,uw,uM⟩:=info_parts Tryz.infoCmdD
 have HV:=Q (src_far h)
 have HS:=Q h
 have hB:=src_lt h
 clear h
 go_enter Tryz.func30,Tryz.ntmps30
 go_wp2_with fail
 refine (size_any B v l m 24 _ (cA (bN (M HS)) _).1 (by omega) (by omega)).mono ?_
 rintro e w1 ⟨y,rfl,js,kM,rfl⟩
 have hwr:IntKind.i64.wrap (y + 4) = y + 4:=by rw [IntKind.wrap_i64]; omega
 go_wp2_with fail
 refine (aM B v l m (y + 4) _ (cA (bN (M HS)) _).1 (by omega) (by omega) (by omega)).mono ?_
 rintro e w1 ⟨j0,rfl,jk,hj1,hE⟩
 have HE:=Q (show ax B w v l (m + 3) w1 from ⟨hE.1,zQ (bG w _ _) hE.2⟩)
 have HO:=Q ((World.ownsRow_made (base:=w.heap.size) (e:=43) (size:=8) w #[] 0 tg (by decide) rfl).kept hE.2 (.inr (by simp [Value.ownBlock]; omega)))
 clear hE
 go_wp2_with fail
 go_loopw [3,4] (fun ov iv wr=>∃ (cs:List Cm) (j:Nat),iv = H j∧cs.length + j ≤ 27∧(∀ c ∈ cs,DrOk c)∧wr.ownsRow w.heap.size 43 8 ov cs.length (cs.flatMap Cm.vs)∧Src B wr v l (m + 3 + 100 * cs.length)∧w.grownBy wr (some B)) (fun _ iv _=>(intOf iv).toNat)
 case atStart =>
  obtain ⟨j,rfl⟩:=Int.eq_ofNat_of_zero_le jk
  exact ⟨[],j,rfl,by simp; omega,by simp,M HO,by simpa using (M HE).1,(M HE).2⟩
 case round =>
  obtain ⟨cs,j,rfl,xD,hxs,xN,hsrc,ut⟩:=hrel
  have HX:=Q hxs
  have HOW:=Q xN
  have HSR:=Q hsrc
  have pQ:=Q ut
  have xA:Hid (∀ k,k < w.heap.size→u3.ownBlock ≠ some k):=fun k hk e=>by have:=(xN.lt k e).1; omega
  obtain ⟨ao,co,rfl⟩:=own_sliceD xN
  clear hxs xN hsrc ut HE HO
  by_cases L:j = 0
  ·subst L
   go_wp2_with fail
   go_ret
   exact ⟨_,cs,rfl,M HX,by omega,M HOW,M pQ⟩
  have hj':(0:Int) < j:=by omega
  clear L
  go_wp2_with fail
  refine (cmd_drawn B v l _ cs.length _ (M HSR) (by omega) (by omega) (by omega)).mono ?_
  rintro e w3 ⟨⟨ck,c1,ct,cl,cq,ci,cp,cg⟩,rfl,hcg,hE3⟩
  have HE3:=Q hE3
  have qB:=Q ((M HOW).kept hE3.2 (.inr (M xA B hB)))
  have HCG:Hid (DrOk ⟨ck,c1,ct,cl,cq,ci,cp,cg⟩):=hcg
  clear hE3 hcg
  unfold Cm.vs
  simp only
  have kp:w.heap.size ≤ w3.heap.size:=yK (M pQ).size (M HE3).2.size
  go_wp2_with (at_builtin; go_must (refine wpList_append_own _ rfl _ _ 23 rfl w.heap.size 43 i0 _ 8 72 Tryz.underlying23 hi uq uw uM rfl (by decide) _ cs.length (cs.flatMap Cm.vs) rfl ((M qB).alloc _) (yn w3 0) 1 1 (Cm.vs ⟨ck,c1,ct,cl,cq,ci,cp,cg⟩) rfl rfl (cells_srcD w3 _ _) (by simp [Value.oneCell',Cm.vs]) (by unfold maxLen; omega) (by omega) (by simp; omega) ?_); intro v4 w4 jd km _)
  go_roundw
  case rel =>
   refine ⟨cs ++ [⟨ck,c1,ct,cl,cq,ci,cp,cg⟩],j - 1,by go_num,by simp; omega,?_,by simpa using jd,?_,?_⟩
   ·intro x hx
    rcases List.mem_append.1 hx with hx | hx
    ·exact M HX x hx
    ·rw [List.mem_singleton.1 hx]; exact M HCG
   ·refine bu (src_keep (cA (bN (M HE3).1) _).1 km (fun e=>M xA B hB e.symm) (fun hn e=>?_)) (by simp; omega)
    obtain ⟨k,z,K⟩:=M HV hn
    exact M xA k K (e ▸ z)
   ·exact gr_newD (zQ (zQ (M pQ) (M HE3).2) (bG w3 _ _)) km (fun k hk=>((M qB).lt k hk).1)
  case measure=>simp [intOf]; omega
theorem scriptOf_any (v:Value) (l:List Int) (w:World) (h:Rd w v l) (hb:Bts l) :
  Calls Tryz.prog 9 #[v] w fun e w'=>∃ (o:Value) (cs:List Cm),e = yk o∧(∀ c ∈ cs,DrOk c)∧cs.length ≤ 27∧w'.ownsRow w.heap.size 43 8 o cs.length (cs.flatMap Cm.vs)∧yl w w':=by
 have HR:=Q h
 have HB:=Q hb
 obtain ⟨a,F,rfl,hl,_⟩:=h
 clear hb
 go_enter Tryz.func9,Tryz.ntmps9
 go_wp2_with fail
 refine (source_any _ l _ (M HR) (M HB)).mono ?_
 rintro e w1 ⟨rfl,hS,xR⟩
 have HS:=Q hS
 have xT:=Q xR
 clear hS xR
 go_wp2_with fail
 refine (script_drawn _ _ l _ _ (M HS) (by omega)).mono ?_
 rintro e w2 ⟨o,cs,rfl,z,K,h3,hE⟩
 have HX:=Q z
 have HO:=Q h3
 have HE:=Q hE
 clear hE z h3
 go_wp2_with fail
 go_ret
 exact ⟨_,cs,rfl,M HX,K,own_baseD (M HO) (M xT).size,own_below_grown (M xT) tg (M HE)⟩
theorem zero_read:FloatKind.f64.format.read 0 = .number false 0 FloatKind.f64.format.leastPlace:=by decide
theorem one_read:∃ m j,FloatKind.f64.format.read 4607182418800017408 = .number false m j∧m ≠ 0:=⟨_,_,rfl,by decide⟩
theorem zero_mag (s:Bool) (m a b:Nat) (h:Ieee.signed s m a = Ieee.signed false 0 b):m = 0:=by
 have h0:Ieee.signed false 0 b = 0:=by simp [Ieee.signed]
 rw [h0] at h
 have K:m <<< a = 0:=by
  cases s
  ·have h':((m <<< a:Nat):Int) = 0:=h
   omega
  ·have h':-((m <<< a:Nat):Int) = 0:=h
   omega
 rw [Nat.shiftLeft_eq] at K
 have:=Nat.two_pow_pos a
 rcases Nat.mul_eq_zero.1 K with h | h
 ·exact h
 ·omega
theorem div_zero (x:Nat) (h:FloatKind.f64.format.order x 0 = some Ordering.eq):∃ r,FloatKind.f64.format.div 4607182418800017408 x = some r:=by
 obtain ⟨m1,j1,z,hm1⟩:=one_read
 unfold Ieee.Format.order at h
 rw [zero_read] at h
 unfold Ieee.Format.div
 rw [z]
 cases hx:FloatKind.f64.format.read x with
 | nan s f=>rw [hx] at h; simp [Ieee.Datum.order] at h
 | infinity s=>rw [hx] at h; cases s <;> simp [Ieee.Datum.order] at h
 | number s m i =>
  rw [hx] at h
  simp only [Ieee.Datum.order,Option.some.injEq] at h
  have hm:=zero_mag s m _ _ (Std.LawfulEqCmp.eq_of_compare h)
  subst hm
  exact ⟨FloatKind.f64.format.write (.infinity s),by simp [Ieee.Datum.quotient,hm1]⟩
theorem sameFloat_any (x:Nat) (w:World) :
  Calls Tryz.prog 97 #[yh x,yh x] w fun e w'=>e = .returned (.bool true)∧w' = w:=by
 cases hn:nanB x with
 | true =>
  have h':(FloatKind.f64.format.order x x != some Ordering.eq) = true:=hn
  clear hn
  go_enter Tryz.func97,Tryz.ntmps97
  go_wp2
  go_ret
  exact ⟨rfl,rfl⟩
 | false =>
  have h':(FloatKind.f64.format.order x x != some Ordering.eq) = false:=hn
  have K:FloatKind.f64.format.order x x = some Ordering.eq:=by simpa using h'
  clear hn
  by_cases hz:FloatKind.f64.format.order x 0 = some Ordering.eq
  ·obtain ⟨r,hr⟩:=div_zero x hz
   have hq:∀ W,(binOp .quo 41 (yh 4607182418800017408) (yh x)).run Tryz.prog W = .ok (yh r) W:=fun W=>by simp [binOp,Op.floatArith,hr]
   have hz':(FloatKind.f64.format.order x 0 == some Ordering.eq) = true:=by rw [hz]; rfl
   clear hz hr
   go_enter Tryz.func97,Tryz.ntmps97
   go_wp2
   all_goals go_ret
   all_goals exact ⟨zl (by simp),rfl⟩
  ·have hz':(FloatKind.f64.format.order x 0 == some Ordering.eq) = false:=by simpa using hz
   clear hz
   go_enter Tryz.func97,Tryz.ntmps97
   go_wp2
   go_ret
   exact ⟨zl (by simp),rfl⟩
theorem zd {W:World} {b n j:Nat} (h:W.there b 0 n) (L:j < n):∃ u,W.cell? (J b j) = some u∧W.frozen? (J b j) = false:=by
 obtain ⟨z,K⟩:=h j L
 rw [Nat.zero_add] at z K
 obtain ⟨u,hu⟩:=Option.isSome_iff_exists.1 z
 exact ⟨u,hu,K⟩
theorem bK {x:List Bool} {n j:Nat} (hx:x.length = n) (L:j < n):x[j]? = some false ∨ x[j]? = some true:=by
 rw [yE (by omega)]
 cases x[j] <;> simp
def DE (N B:Nat) (W0:World) (vo:Value) (ts:List Ev) (e:Ev) (p q:Prop) (V:World):Nat→Value→Prop
 | 0,v=>v = I N 0
 | 1,v=>v = I N 0
 | 2,v=>v = I N 0
 | 3,v=>v = I N 11
 | 4,v=>v = vo
 | 5,v=>v = .agg (ys e.kind e.cmd.k e.cmd.s e.cmd.t e.cmd.l e.cmd.q e.cmd.i e.cmd.p e.cmd.g e.id e.other e.qty e.price e.reason).toArray
 | 6,v=>∃ s,v = .slice (some (J s 0)) 1 1∧(¬ p→∀ j u,e.vs[j]? = some u→V.cell? (((J s 0):Addr).add j) = some u)
 | 7,v=>∃ a c,v = .slice a (ts.length + 1) c∧p∧(¬ q→ERow V B v (ts ++ [e])∧W0.grownBy V vo.ownBlock)∧(q→V.cell? (J N 11) = some v∧ERow V B v (ts ++ [e])∧TookAt N 10 vo.ownBlock W0 V)
 | 8,v=>v = I N 0
 | 9,v=>v = I N 11
 | _,_=>True
section
variable {N B:Nat} {W0 V V':World} {vo:Value} {ts:List Ev} {e:Ev} {p q:Prop}
theorem de_alloc {o:Obj} (hp:¬ p):∀ j v,DE N B W0 vo ts e p q V j v→DE N B W0 vo ts e p q (V.alloc o) j v:=by
 intro j v h
 match j with
 | 0 | 1 | 2 | 3 | 4 | 5 | 8 | 9=>exact h
 | 6 =>
  obtain ⟨s,z,K⟩:=h
  exact ⟨s,z,fun hp j u hu=>(yS _ _ _ (yH V _ (K hp j u hu))).trans (K hp j u hu)⟩
 | 7=>obtain ⟨_,_,_,K,_⟩:=h; exact absurd K hp
 | j + 10=>trivial
theorem de_one:∀ j v,j ≠ 7→DE N B W0 vo ts e False False V j v→DE N B W0 vo ts e True False V' j v:=by
 intro j v L h
 match j with
 | 0 | 1 | 2 | 3 | 4 | 5 | 8 | 9=>exact h
 | 6 =>
  obtain ⟨s,z,K⟩:=h
  exact ⟨s,z,fun hp=>absurd trivial hp⟩
 | 7=>exact absurd rfl L
 | j + 10=>trivial
theorem de_two {v:Value}:∀ j,j ≠ 10→DE N B W0 vo ts e True False V j v→(j = 7→DE N B W0 vo ts e True True V' 7 v)→DE N B W0 vo ts e True True V' j v:=by
 intro j L h h7
 match j with
 | 0 | 1 | 2 | 3 | 4 | 5 | 8 | 9=>exact h
 | 6 =>
  obtain ⟨s,z,K⟩:=h
  exact ⟨s,z,fun hp=>absurd trivial hp⟩
 | 7=>exact h7 rfl
 | j + 10=>trivial
end
theorem tell_any (N B:Nat) (vo:Value) (ts:List Ev) (e:Ev) (w:World) (c11:w.cell? (J N 11) = some vo) (f11:w.frozen? (J N 11) = false) (vF:∃ xp,w.heap[N]? = some (.cells xp 71 (0,0)))
  (jC:ERow w B vo ts) (hB:B ≤ w.heap.size) (hn:ts.length ≤ 1000) :
  Calls Tryz.prog 65 #[I N 0,.agg (ys e.kind e.cmd.k e.cmd.s e.cmd.t e.cmd.l e.cmd.q e.cmd.i e.cmd.p e.cmd.g e.id e.other e.qty e.price e.reason).toArray] w fun r w'=>∃ qh,r = yk (.tuple #[])∧w'.cell? (J N 11) = some qh∧ERow w' B qh (ts ++ [e])∧TookAt N 10 vo.ownBlock w w':=by
 obtain ⟨i0,uv,uq,uw,uM⟩:=info_parts infoEv
 have qx:some N ≠ vo.ownBlock:=zo jC vF (by decide)
 have qr:N < w.heap.size:=yH w _ c11
 have xR:=eD w (E (ys e.kind e.cmd.k e.cmd.s e.cmd.t e.cmd.l e.cmd.q e.cmd.i e.cmd.p e.cmd.g e.id e.other e.qty e.price e.reason).toArray 46)
 have xT:=Q xR
 have xz:w.heap.size < (w.alloc (E (ys e.kind e.cmd.k e.cmd.s e.cmd.t e.cmd.l e.cmd.q e.cmd.i e.cmd.p e.cmd.g e.id e.other e.qty e.price e.reason).toArray 46)).heap.size:=by rw [ze]; omega
 have jR:Hid (World.rangeAt (w.alloc (E (ys e.kind e.cmd.k e.cmd.s e.cmd.t e.cmd.l e.cmd.q e.cmd.i e.cmd.p e.cmd.g e.id e.other e.qty e.price e.reason).toArray 46)) w.heap.size 0 e.vs):=zg w e.vs _
 have qa:Hid (World.cell? (w.alloc (E (ys e.kind e.cmd.k e.cmd.s e.cmd.t e.cmd.l e.cmd.q e.cmd.i e.cmd.p e.cmd.g e.id e.other e.qty e.price e.reason).toArray 46)) (J N 11) = some vo):=(xR.cell (p:=(J N 11)) qr).trans c11
 have pN:Hid (World.frozen? (w.alloc (E (ys e.kind e.cmd.k e.cmd.s e.cmd.t e.cmd.l e.cmd.q e.cmd.i e.cmd.p e.cmd.g e.id e.other e.qty e.price e.reason).toArray 46)) (J N 11) = false):=(World.frozen?_of_block (a:=(J N 11)) (xR.block N qr)).trans f11
 have uE:Hid (∃ xp,(w.alloc (E (ys e.kind e.cmd.k e.cmd.s e.cmd.t e.cmd.l e.cmd.q e.cmd.i e.cmd.p e.cmd.g e.id e.other e.qty e.price e.reason).toArray 46)).heap[N]? = some (.cells xp 71 (0,0))):=by obtain ⟨xp,hc⟩:=vF; exact ⟨xp,(xR.block N qr).trans hc⟩
 have jw:=Q (zK jC xR)
 clear c11 f11 vF jC xR
 go_enter Tryz.func65,Tryz.ntmps65
 refine eH fun h2 xu=>?_
 go_wp2_with fail
 refine M xu _ _ ?_
 clear xu
 generalize (w.alloc (E (ys e.kind e.cmd.k e.cmd.s e.cmd.t e.cmd.l e.cmd.q e.cmd.i e.cmd.p e.cmd.g e.id e.other e.qty e.price e.reason).toArray 46)) = qt at xT xz jR qa pN uE jw ⊢
 have hBX:B ≤ qt.heap.size:=by omega
 have kV:N < qt.heap.size:=by omega
 refine zi (RT (fun V=>yl qt V) (fun f=>{ tmps:=#[I N 0,.agg (ys e.kind e.cmd.k e.cmd.s e.cmd.t e.cmd.l e.cmd.q e.cmd.i e.cmd.p e.cmd.g e.id e.other e.qty e.price e.reason).toArray,Z,ym w 0,f 0,f 1,f 2,f 3,f 4,f 5,f 6,f 7,f 8,f 9],defers:=[] }) 7 10 (DE N B qt vo ts e)) (by kernel_rfl) ?_ ?_ ?_
 ·exact ⟨fun _=>Z,rfl,fun _=>⟨rfl,rfl,rfl,Nat.le_refl _,fun _ _=>rfl⟩,fun j L=>by rw [yF] at L; split at L <;> simp at L⟩
 ·rintro x hR V ⟨f,rfl,-,U⟩ hx xK
  have xm:=aK xK hx (acyc _ (by kernel_rfl))
  have k7:x[7]? = some true:=xm 7 (by simp)
  have k10:x[10]? = some true:=xm 10 (by simp)
  obtain ⟨va,vc,-,-,-,uX⟩:=U 7 k7
  obtain ⟨q1,q2,q3⟩:=uX k10
  have vd:Hid (_∧_∧_):=⟨q1,q2,q3⟩
  clear U xm xK hx k7 k10 uX q1 q2 q3
  dsimp only
  go_wp2_with fail
  go_end0
  exact ⟨_,rfl,(M vd).1,(M vd).2.1,bU (bD (zU (M xT) tg) qr qx) (M vd).2.2⟩
 ·rintro x hR V i op ⟨f,rfl,jj,U⟩ xk hx Y xq D
  have xW:=Q jj
  have HD:=Q U
  have xj:∀ b o u,qt.cell? (J b o) = some u→¬ x[7]? = some true→V.cell? (J b o) = some u:=fun b o u hu hn7=>((M xW hn7).cell (p:=(J b o)) (yH qt _ hu)).trans hu
  have n7':i < 7→0 < i→¬ x[7]? = some true:=fun xL vW h7=>by
   have h4:=yd xk 7 rfl h7 4 rfl
   have h6:=yd xk 7 rfl h7 6 rfl
   have h3:=yd xk 4 rfl h4 3 rfl
   have h5:=yd xk 6 rfl h6 5 rfl
   have K:=yd xk 3 rfl h3 2 rfl
   have z:=yd xk 2 rfl K 1 rfl
   have ub:∀ j,0 < j→j < 7→x[j]? = some true:=fun j jk L=>by
    rcases (by omega:j = 1 ∨ j = 2 ∨ j = 3 ∨ j = 4 ∨ j = 5 ∨ j = 6) with rfl | rfl | rfl | rfl | rfl | rfl <;> assumption
   rw [ub i vW xL] at xq; cases xq
  have n10':i < 10→¬ x[10]? = some true:=fun xL vL=>by
   have h9:=yd xk 10 rfl vL 9 rfl
   have h7:=yd xk 10 rfl vL 7 rfl
   have h8:=yd xk 9 rfl h9 8 rfl
   have h4:=yd xk 7 rfl h7 4 rfl
   have h6:=yd xk 7 rfl h7 6 rfl
   have h0:=yd xk 8 rfl h8 0 rfl
   have h3:=yd xk 4 rfl h4 3 rfl
   have h5:=yd xk 6 rfl h6 5 rfl
   have K:=yd xk 3 rfl h3 2 rfl
   have z:=yd xk 2 rfl K 1 rfl
   have ub:∀ j,j < 10→x[j]? = some true:=fun j L=>by
    rcases (by omega:j = 0 ∨ j = 1 ∨ j = 2 ∨ j = 3 ∨ j = 4 ∨ j = 5 ∨ j = 6 ∨ j = 7 ∨ j = 8 ∨ j = 9) with rfl | rfl | rfl | rfl | rfl | rfl | rfl | rfl | rfl | rfl <;> assumption
   rw [ub i xL] at xq; cases xq
  clear xk jj
  match i,Y with
  | 0,Y | 1,Y =>
   obtain rfl:=hD Y
   clear D U
   rw [if_pos (by rfl)];unfold Oper.wp;go_simp
   exact ⟨upd f _ (I N 0),by simp [upd],zy (M HD) (by decide) (by decide) (fun _ _ h=>h) (M xW) rfl⟩
  | 2,Y =>
   obtain rfl:=hD Y
   have g:f 1 = I N 0:=U 1 (yc D 1 rfl)
   clear D U
   rw [if_pos (by rfl)];unfold Oper.wp;go_simp
   exact ⟨upd f 2 (I N 0),by simp [upd,g],zy (M HD) (by decide) (by decide) (fun _ _ h=>h) (M xW) rfl⟩
  | 3,Y =>
   obtain rfl:=hD Y
   have g:f 2 = I N 0:=U 2 (yc D 2 rfl)
   clear D U
   rw [if_pos (by rfl)];unfold Oper.wp;go_simp
   exact ⟨upd f 3 (I N 11),by simp [upd,g],zy (M HD) (by decide) (by decide) (fun _ _ h=>h) (M xW) rfl⟩
  | 4,Y =>
   obtain rfl:=hD Y
   have g:f 3 = I N 11:=U 3 (yc D 3 rfl)
   have n7:=n7' (by omega) (by omega)
   have y1:=xj N 11 _ (M qa) n7
   clear D U
   rw [if_pos (by rfl)];unfold Oper.wp;go_simp
   exact ⟨upd f 4 (vo),by simp [upd,g],zy (M HD) (by decide) (by decide) (fun _ _ h=>h) (M xW) rfl⟩
  | 5,Y =>
   obtain rfl:=hD Y
   have n7:=n7' (by omega) (by omega)
   have y0:=xj w.heap.size 0 _ (M jR 0 _ rfl) n7
   have y1:=xj w.heap.size 1 _ (M jR 1 _ rfl) n7
   have y2:=xj w.heap.size 2 _ (M jR 2 _ rfl) n7
   have y3:=xj w.heap.size 3 _ (M jR 3 _ rfl) n7
   have y4:=xj w.heap.size 4 _ (M jR 4 _ rfl) n7
   have y5:=xj w.heap.size 5 _ (M jR 5 _ rfl) n7
   have y6:=xj w.heap.size 6 _ (M jR 6 _ rfl) n7
   have y7:=xj w.heap.size 7 _ (M jR 7 _ rfl) n7
   have y8:=xj w.heap.size 8 _ (M jR 8 _ rfl) n7
   have y9:=xj w.heap.size 9 _ (M jR 9 _ rfl) n7
   have y10:=xj w.heap.size 10 _ (M jR 10 _ rfl) n7
   have y11:=xj w.heap.size 11 _ (M jR 11 _ rfl) n7
   have y12:=xj w.heap.size 12 _ (M jR 12 _ rfl) n7
   have y13:=xj w.heap.size 13 _ (M jR 13 _ rfl) n7
   clear D U
   rw [if_pos (by rfl)];unfold Oper.wp;go_simp
   exact ⟨upd f 5 (.agg (ys e.kind e.cmd.k e.cmd.s e.cmd.t e.cmd.l e.cmd.q e.cmd.i e.cmd.p e.cmd.g e.id e.other e.qty e.price e.reason).toArray),by simp [upd],zy (M HD) (by decide) (by decide) (fun _ _ h=>h) (M xW) rfl⟩
  | 6,Y =>
   obtain rfl:=hD Y
   have g:f 5 = .agg (ys e.kind e.cmd.k e.cmd.s e.cmd.t e.cmd.l e.cmd.q e.cmd.i e.cmd.p e.cmd.g e.id e.other e.qty e.price e.reason).toArray:=U 5 (yc D 5 rfl)
   have n7:=n7' (by omega) (by omega)
   have xZ:=M xW n7
   have hsf:=sfl
   clear D U
   rw [if_pos (by rfl)];unfold Oper.wp;go_simp
   refine ⟨upd f 6 (.slice (some (yn V 0)) 1 1),by simp [upd,g],zy (M HD) (by decide) (by decide) (de_alloc n7) (fun _=>xZ.alloc xZ.size _) ⟨V.heap.size,rfl,fun _=>?_⟩⟩
   exact fun j u h=>bQ V e.vs 46 j u h
  | 7,Y =>
   obtain rfl:=hD Y
   have g4:f 4 = vo:=U 4 (yc D 4 rfl)
   obtain ⟨s,g6,oS⟩:=U 6 (yc D 6 rfl)
   have n7:¬ x[7]? = some true:=by rw [xq]; simp
   have n10:=n10' (by omega)
   have xZ:=M xW n7
   have uD:ERow V B vo ts:=zK (M jw) xZ
   rw [if_pos (by rfl)]
   refine wp_append_own V (.tmp 8) (.tmp 10) 38 rfl B 46 i0 _ 14 120 Tryz.underlying38 uv uq uw uM rfl (by decide) vo ts.length (ts.flatMap Ev.vs) g4 uD (J s 0) 1 1 e.vs g6 rfl (oS n7) (one_ev e) (by unfold maxLen; omega) (by omega) (by have:=xZ.size; omega) ?_
   intro v' w' xN ut _
   obtain ⟨ga,gc,rfl⟩:=dO xN (by omega)
   refine ⟨upd f 7 (.slice (some (J ga 0)) (ts.length + 1) gc),rfl,rt_one (by decide) (M HD) xq n10 (fun j v L h=>de_one j v L h) ⟨some (J ga 0),gc,rfl,trivial,fun _=>⟨?_,?_⟩,fun h=>h.elim⟩⟩
   ·show World.ownsRow _ _ _ _ _ (ts ++ [e]).length _
    rw [yM,List.flatMap_append]; simpa using xN
   ·exact (zU xZ tg).trans ut
  | 8,Y =>
   obtain rfl:=hD Y
   have g:f 0 = I N 0:=U 0 (yc D 0 rfl)
   clear D U
   rw [if_pos (by rfl)];unfold Oper.wp;go_simp
   exact ⟨upd f 8 (I N 0),by simp [upd,g],zy (M HD) (by decide) (by decide) (fun _ _ h=>h) (M xW) rfl⟩
  | 9,Y =>
   obtain rfl:=hD Y
   have g:f 8 = I N 0:=U 8 (yc D 8 rfl)
   clear D U
   rw [if_pos (by rfl)];unfold Oper.wp;go_simp
   exact ⟨upd f 9 (I N 11),by simp [upd,g],zy (M HD) (by decide) (by decide) (fun _ _ h=>h) (M xW) rfl⟩
  | 10,Y =>
   obtain rfl:=hD Y
   have g9:f 9 = I N 11:=U 9 (yc D 9 rfl)
   have k7:x[7]? = some true:=D ⟨7,.data⟩ (by simp) rfl
   have n10:¬ x[10]? = some true:=by rw [xq]; simp
   obtain ⟨ga,gc,g7,-,hfa,-⟩:=U 7 k7
   obtain ⟨jC,ut⟩:=hfa n10
   have y1:=ut.cell (M qa) qx
   have f1:V.frozen? (J N 11) = false:=(World.frozen?_of_block (a:=(J N 11)) (ut.block N kV qx)).trans (M pN)
   have jt:=Q (g7 ▸ jC)
   have oY:Hid (∃ xp,V.heap[N]? = some (.cells xp 71 (0,0))):=by obtain ⟨xp,hc⟩:=M uE; exact ⟨xp,(ut.block N kV qx).trans hc⟩
   have pQ:=Q ut
   clear D U jC ut hfa
   rw [if_pos (by rfl)];unfold Oper.wp;go_simp
   refine ⟨upd f 10 Z,by simp [upd,g9,g7],rt_two (by decide) (M HD) k7 xq (fun j L hxj h=>de_two j L h (fun hj7=>?_)) trivial⟩
   subst hj7
   obtain ⟨-,-,-,-,-,-⟩:=h
   refine ⟨ga,gc,g7,trivial,fun h=>absurd trivial h,fun _=>?_⟩
   rw [g7]
   refine ⟨yJ _ _ _ y1,zw (M jt) (zo (M jt) (M oY) (by decide)) 11 _,?_⟩
   exact bU (bD (M pQ) kV qx) (df (o:=10) _ _)
  | i + 11,Y=>simp at Y
end Go.Proofs.YtbakanofkghmiaaGreat
