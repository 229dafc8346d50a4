/-
  The bytes of an event laid behind others, by the program: proved by walking the function.
-/
import Derived.Test.YthhkapcbocgcoaaGreatDoorGj25
set_option linter.unusedVariables false
set_option maxHeartbeats 6400000
set_option maxRecDepth 100000
namespace Go.Proofs.YthhkapcbocgcoaaGreatDoor
open Go.RowKit
def evL (e:Ev):List Int:=e.kind :: (shF e.kind).flatMap (wrF e)
theorem textL_le (s:ByteArray):(cR s).length ≤ 23:=by
 have D:=eU s
 have X:=gD (zz (cutB s).size) (zz_lt _ (by omega) (by omega))
 rw [cR,yQ,bl_len]
 omega
theorem wrF_len (e:Ev) (he:e.fit) (o:Nat):0 < (wrF e o).length∧(wrF e o).length ≤ 23:=by
 unfold wrF
 split
 ·rw [fl8_len]; omega
 ·split
  ·exact ⟨(textL_len _).1,textL_le _⟩
  ·exact ⟨putU_pos _,yO (gD _ (zz_lt _ (he.n o).1 (he.n o).2)) (by omega)⟩
theorem flat_le (e:Ev) (he:e.fit):∀ os:List Nat,(os.flatMap (wrF e)).length ≤ 23 * os.length
 | []=>by simp
 | o :: os=>by
  have:=flat_le e he os
  have:=(wrF_len e he o).2
  rw [List.flatMap_cons,yQ,List.length_cons]
  omega
theorem shF_len (k:Int):(shF k).length ≤ 9:=by
 unfold shF
 repeat' split
 all_goals simp
structure AE (w Ws Wt:World) (v0:Value) (wr:World) (ov:Value):Prop where
 g:w.grownBy wr v0.ownBlock
 o:∀ q,ov.ownBlock = some q→v0.ownBlock = some q ∨ (w.heap.size < q∧(q < Ws.heap.size ∨ Wt.heap.size ≤ q))
 k:∀ i,i < Wt.heap.size→(i = w.heap.size ∨ Ws.heap.size ≤ i)→wr.heap[i]? = Wt.heap[i]?
 z:Wt.heap.size ≤ wr.heap.size
theorem ae_below {w Ws Wt wr wr':World} {v0 ov:Value} (h:AE w Ws Wt v0 wr ov) (A:yn wr wr'):AE w Ws Wt v0 wr' ov :=
 ⟨⟨A.os.trans h.g.os,A.tape.trans h.g.tape,A.output.trans h.g.output,yO h.g.size A.size,fun i hi hn=>(A.block i (yK hi h.g.size)).trans (h.g.block i hi hn)⟩,
  h.o,fun i hi E=>(A.block i (yK hi h.z)).trans (h.k i hi E),yO h.z A.size⟩
theorem ae_append {w Ws Wt wr wr':World} {v0 ov v':Value} (h:AE w Ws Wt v0 wr ov) (h0:∀ q,v0.ownBlock = some q→q < w.heap.size) (hws:w.heap.size < Ws.heap.size) (vd:Ws.heap.size ≤ Wt.heap.size) (hg:wr.grownBy wr' ov.ownBlock) (ha:v'.ownBlock = ov.ownBlock ∨ v'.ownBlock = some wr.heap.size):AE w Ws Wt v0 wr' v':=by
 refine ⟨⟨hg.os.trans h.g.os,hg.tape.trans h.g.tape,hg.output.trans h.g.output,yO h.g.size hg.size,fun i hi hn=>?_⟩,fun q hq=>?_,fun i hi E=>?_,yO h.z hg.size⟩
 ·refine (hg.block i (yK hi h.g.size) fun e=>?_).trans (h.g.block i hi hn)
  rcases h.o i e.symm with Q | ⟨Q,_⟩
  ·exact hn Q.symm
  ·omega
 ·rcases ha with ha | ha
  ·exact h.o q (ha ▸ hq)
  ·rw [ha] at hq
   obtain rfl:wr.heap.size = q:=by simpa using hq
   exact .inr ⟨by have:=h.z; omega,.inr h.z⟩
 ·refine (hg.block i (yK hi h.z) fun e=>?_).trans (h.k i hi E)
  rcases h.o i e.symm with Q | ⟨Q,D⟩
  ·have:=h0 i Q; omega
  ·omega
theorem ff_blk {hR o:Nat} {W W':World} {c:Fc} (h:FF W hR o c) (hs:W.heap.size ≤ W'.heap.size) (A:∀ i,i < W.heap.size→hR ≤ i→W'.heap[i]? = W.heap[i]?):FF W' hR o c:=by
 unfold FF at h ⊢
 split
 ·rwa [if_pos ‹_›] at h
 ·rw [if_neg ‹_›] at h
  split
  ·rwa [if_pos ‹_›] at h
  ·rw [if_neg ‹_›] at h
   obtain ⟨b,Q,D,X,h4⟩:=h
   exact ⟨b,Q,D,yK X hs,(yR (a:=(J b 0)) (A b X D)).trans h4⟩
theorem fld_shape (c:Int) (a:Option Addr) (n cap:Nat) (W:World):(Instr.field 95 (.agg #[H c,.slice a n cap]) 1).run Tryz.prog W = .ok (.slice a n cap) W:=by kernel_rfl
def AdEnd (B:Nat) (v0:Value) (l:List Int) (w:World) (r:Ending) (w':World):Prop :=
 ∃ v,r = .returned v∧BRow w' B v l∧w.grownBy w' v0.ownBlock∧∀ q,v.ownBlock = some q→v0.ownBlock = some q ∨ w.heap.size < q
theorem adEnd_done {B:Nat} {v0 ov:Value} {l:List Int} {w Ws Wt wr:World} (hr:BRow wr B ov l) (h:AE w Ws Wt v0 wr ov):AdEnd B v0 l w (.returned ov) wr :=
 ⟨ov,rfl,hr,h.g,fun q hq=>(h.o q hq).imp (fun h=>h) fun h=>h.1⟩
theorem addEvent_any (e:Ev) (he:e.fit) (E:1 ≤ e.kind∧e.kind ≤ 9) (B:Nat) (v0:Value) (l0:List Int) (w:World) (hB:B ≤ w.heap.size) (ur:BRow w B v0 l0) (jk:l0.length ≤ 1048576) :
  Calls Tryz.prog 48 #[v0,evV e] w fun r w'=>AdEnd B v0 (l0 ++ evL e) w r w':=by
 have hsf:=sfl
 have hsfn:=sfn
 have hfld:=fld_shape
 obtain ⟨i0,uJ,uD,uz,uM⟩:=info_parts Tryz.infoByte
 have h0:∀ q,v0.ownBlock = some q→q < w.heap.size:=fun q hq=>(ur.lt q hq).2
 have HFit:=M he
 have HKd:=M E
 have xU:Hid (yn w (w.alloc (Obj.cells e.vs.toArray 37))):=gZ _ _
 have vw:=M (zy w e.vs 37)
 have jI:Hid ((w.alloc (Obj.cells e.vs.toArray 37)).heap.size = w.heap.size + 1):=by show _ = _; simp
 have vm:=M (fT ur (U xU))
 have HWF:=M (fun hR o c W Q D=>writeField_any hR o c e W he Q D)
 have HWL:=M (wrF_len e he)
 have HFL:=M (flat_le e he)
 have oG:0 ≤ e.kind:=by omega
 have hk1:e.kind ≤ 255:=by omega
 clear he E ur
 have HEL:=M (show evL e = e.kind :: (shF e.kind).flatMap (wrF e) from rfl)
 generalize evL e = EL at *
 generalize wrF e = wf at *
 obtain ⟨xn,⟨ck,cs,ct,cl,cq,ci,cp,cg⟩,id,xl,qty,xm,xk⟩:=e
 unfold evV at HWF ⊢
 unfold Ev.vs at xU vw jI vm
 simp only at HWF xU vw jI vm HEL oG hk1 ⊢
 go_enter Tryz.func48,Tryz.ntmps48
 refine ic fun xh xK=>?_
 go_wp2_with fail
 refine U xK _ _ ?_
 clear xK
 generalize (w.alloc (Obj.cells (yv xn ck cs ct cl cq ci cp cg id xl qty xm xk).toArray 37)) = h3 at xU vw jI vm ⊢
 have x0:=zb (U vw) 0 rfl
 have vG:Hid (yn h3 (h3.alloc (Obj.cells #[.int .u8 xn] 5))):=gZ _ _
 have HOT:Hid (OwnT h3.heap.size (h3.alloc (Obj.cells #[.int .u8 xn] 5)) (.slice (some (J h3.heap.size 0)) 1 1) [xn]):=⟨h3.heap.size,1,#[.int .u8 xn],5,rfl,Nat.le_refl _,heap_alloc_new _ _,Nat.le_refl _,Nat.le_refl _,by unfold maxLen; omega,by simp,rfl⟩
 have HRA:=M (fT (U vm) (U vG))
 have HZA:Hid ((h3.alloc (Obj.cells #[.int .u8 xn] 5)).heap.size = w.heap.size + 2):=by show _ = _; simp [U jI]
 refine ic fun xh xK=>?_
 go_wp2_with (at_builtin; go_must (refine gT _ rfl (.tmp 7) (.tmp 11) 22 rfl B i0 Tryz.underlying22 uJ uD uz uM _ l0 rfl (U HRA) h3.heap.size _ [xn] rfl (U HOT) (by simp; omega) (by have:=U HZA; omega) ?_); intro v1 w1 km je ha1)
 have hxz:=U HZA
 have hgA:w.grownBy w1 v0.ownBlock:=by
  have A:=(U xU).trans ((U vG).mono (U xU).size)
  exact ⟨je.os.trans A.os,je.tape.trans A.tape,je.output.trans A.output,yO A.size je.size,fun i hi hn=>(je.block i (by omega) hn).trans (A.block i hi)⟩
 have pK:Bx w1 w.heap.size (yv xn ck cs ct cl cq ci cp cg id xl qty xm xk):=cE (zl (U vw) (U vG) (by rw [U jI]; omega)) (je.block w.heap.size (by omega) (fun e=>absurd (h0 _ e.symm) (Nat.lt_irrefl _)))
 have kW:w.heap.size + 2 ≤ w1.heap.size:=by have:=je.size; omega
 have hv1:∀ q,v1.ownBlock = some q→v0.ownBlock = some q ∨ (w.heap.size < q∧q < w1.heap.size):=fun q hq=>by
  rcases ha1 with ha | ha
  ·exact .inl (ha ▸ hq)
  ·refine .inr ⟨?_,(km.lt q hq).2⟩
   rw [ha] at hq
   have:(h3.alloc (Obj.cells #[.int .u8 xn] 5)).heap.size = q:=by simpa using hq
   omega
 refine U xK _ _ ?_
 have x1:=zb pK 0 rfl
 have bw:=M hgA
 have xW:=M pK
 have HV1:=M hv1
 have vS:=M km
 clear xK je ha1 hgA pK hv1 km xU vw jI vm vG HOT HRA HZA x0 hxz
 go_wp2_with fail
 refine (shape_any xn w1).mono ?_
 rintro r W3 ⟨fv,fs,rfl,hof,hff,xQ⟩
 have vC:=(ffs_get hff).1
 have HF3:=M hff
 have qW:=M hof
 have pe:=M (fT (U vS) xQ)
 have HAE:Hid (AE w w1 W3 v0 W3 v1):=⟨⟨xQ.os.trans (U bw).os,xQ.tape.trans (U bw).tape,xQ.output.trans (U bw).output,yO (U bw).size xQ.size,fun i hi hn=>(xQ.block i (by omega)).trans ((U bw).block i hi hn)⟩,
  fun q hq=>(U HV1 q hq).imp (fun h=>h) fun h=>⟨h.1,.inl h.2⟩,fun _ _ _=>rfl,Nat.le_refl _⟩
 have vI:=M (zl (U xW) xQ (by omega))
 have vd:=xQ.size
 obtain ⟨fa,kQ,rfl,hfl,ur⟩:=hof
 clear hff xQ vS bw HV1 xW x1 ur
 go_wp2_with fail
 go_loopw [0,18] (fun ov iv wr=>∃ (k:Nat),k ≤ fs.length∧iv = H k∧Hid (BRow wr B ov (l0 ++ [xn] ++ ((shF xn).take k).flatMap wf)∧AE w w1 W3 v0 wr ov)) (fun _ iv _=>fs.length - (intOf iv).toNat)
 case atStart=>exact ⟨0,Nat.zero_le _,rfl,by rw [List.take_zero,List.flatMap_nil,List.append_nil]; exact U pe,U HAE⟩
 case round =>
  obtain ⟨k,E,rfl,oh⟩:=hrel
  by_cases xM:k < fs.length
  ·obtain ⟨c,hic⟩:∃ c,fs[k]? = some c:=⟨_,yI xM⟩
   obtain ⟨o,jC,pM⟩:=(ffs_get (U HF3)).2 k c hic
   obtain ⟨hrw,oA⟩:=U oh
   have hfw:=ff_blk pM oA.z (fun i hi hF=>oA.k i hi (.inr hF))
   obtain ⟨a7,c7,e7,_,ur⟩:=U qW
   simp only [Value.slice.injEq] at e7
   obtain ⟨rfl,_,rfl⟩:=e7
   obtain ⟨g,rfl,hg0,je,ua,_⟩:=ur (by intro h; rw [h] at xM; simp at xM)
   have hgb:=oA.k g je (.inr hg0)
   have q0:wr.cell? (J g (0 + k * 2 + 0)) = _:=(yR (a:=(J g (0 + k * 2 + 0))) hgb).trans (ua k c hic 0 _ rfl)
   have q1:wr.cell? (J g (0 + k * 2 + 1)) = _:=(yR (a:=(J g (0 + k * 2 + 1))) hgb).trans (ua k c hic 1 _ rfl)
   simp only [Nat.zero_add,Nat.add_zero] at q0 q1
   have hen:=fun args V=>(field_enter _ o c wr hfw args V).2
   have hEV:=shF_evO xn o (yP jC)
   have vj:(k:Int) < fs.length:=by omega
   have HD:Hid ((shF xn).take (k + 1) = (shF xn).take k ++ [o]):=by
    show (shF xn).take (k + 1) = _
    rw [List.take_add_one,jC]
    rfl
   obtain ⟨n1,n2,fl⟩:=c
   have qv:=gZ wr (Obj.cells #[.func (.func n1) #[] fl,.func (.func n2) #[] fl] 136)
   have hXw:Bx wr w.heap.size (yv xn ck cs ct cl cq ci cp cg id xl qty xm xk):=cE (U vI) (oA.k w.heap.size (by omega) (.inl rfl))
   have hX:=zl hXw qv (by have:=oA.z; omega)
   have z0:=zb hX 0 rfl
   have z1:=zb hX 1 rfl
   have z2:=zb hX 2 rfl
   have z3:=zb hX 3 rfl
   have z4:=zb hX 4 rfl
   have z5:=zb hX 5 rfl
   have z6:=zb hX 6 rfl
   have z7:=zb hX 7 rfl
   have z8:=zb hX 8 rfl
   have z9:=zb hX 9 rfl
   have pV:=zb hX 10 rfl
   have pW:=zb hX 11 rfl
   have pX:=zb hX 12 rfl
   have pY:=zb hX 13 rfl
   have HCT:=M (U HWF w1.heap.size o ⟨n1,n2,fl⟩ _ hEV (fH hfw qv hU))
   have pE:=M (fT hrw qv)
   have HAW:=M (ae_below oA qv)
   have hL:=yO (U HFL ((shF xn).take k)) (Nat.mul_le_mul_left 23 (yO (List.length_take_le _ _) (Nat.le_refl k)))
   have hk9:k ≤ 9:=yO E (by rw [← vC]; exact shF_len xn)
   have hLL:(l0 ++ [xn] ++ ((shF xn).take k).flatMap wf).length ≤ 1048784:=by
    rw [yQ,yQ,List.length_singleton]; omega
   have hLO:=(U HWL o)
   have HZR:=M oA.z
   clear ua hic jC pM hfw qv hEV oh hrw oA hX hXw hL ur hgb
   simp only at hen HCT
   generalize hLD:l0 ++ [xn] ++ ((shF xn).take k).flatMap wf = L at *
   have HLD:=M hLD
   clear hLD
   go_wp2_with fail
   refine (U HCT).mono ?_
   rintro r w4 ⟨v4,rfl,pv,xy⟩
   have HR4:=M (fT (U pE) xy)
   have HA4:=M (ae_below (U HAW) xy)
   have oa:=M pv
   have hB4:B ≤ w4.heap.size:=by have:=(U HA4).z; omega
   have HN:Hid (l0 ++ [xn] ++ ((shF xn).take (k + 1)).flatMap wf = L ++ wf o):=by
    show l0 ++ [xn] ++ ((shF xn).take (k + 1)).flatMap wf = L ++ wf o
    rw [U HD,List.flatMap_append,← List.append_assoc,U HLD]
    simp
   clear pv xy pE HAW HCT z0 z1 z2 z3 z4 z5 z6 z7 z8 z9 pV pW pX pY q0 q1 hen
   go_wp2_with (at_builtin; go_must (refine gT _ rfl (.tmp 22) (.tmp 26) 22 rfl B i0 Tryz.underlying22 uJ uD uz uM _ L rfl (U HR4) _ _ (wf o) rfl (U oa) (by omega) hB4 ?_); intro v5 w5 hr5 qw ha5; have pD:=M hr5; have HA5:=M (ae_append (U HA4) h0 (by omega) vd qw ha5); clear hr5 qw ha5)
   go_roundw
   case rel=>exact ⟨k + 1,by omega,by go_num,by rw [U HN]; exact U pD,U HA5⟩
   case measure=>simp [intOf]; omega
  ·obtain ⟨hrw,oA⟩:=U oh
   have bK:k = fs.length:=by omega
   rw [xa (by omega),List.append_assoc,show [xn] ++ (shF xn).flatMap wf = EL from (U HEL).symm] at hrw
   have HE:=M (adEnd_done hrw oA)
   clear hrw oA oh
   go_wp2_with fail
   go_ret
   exact U HE
end Go.Proofs.YthhkapcbocgcoaaGreatDoor
namespace Go.Proofs.YthhkapcbocgcoaaGreatDoor
open Go

theorem unz_zz (n:Int):unz (zz n) = n:=by
 unfold unz zz
 by_cases h:n < 0
 ·rw [if_pos h,if_pos (by omega)]; omega
 ·rw [if_neg h,if_neg (by omega)]; omega
theorem drop_head {l r:List Int} {k:Nat} {c:Int} (h:l.drop k = c :: r):k < l.length∧l.getD k 0 = c∧l.drop (k + 1) = r:=by
 have E:k < l.length:=by
  rcases Nat.lt_or_ge k l.length with Q | Q
  ·exact Q
  ·rw [List.drop_eq_nil_of_le Q] at h; cases h
 rw [xd E] at h
 injection h with Q D
 exact ⟨E,by simp [E,Q],D⟩
theorem putU_bts:∀ (u:Nat),∀ x ∈ putU u,0 ≤ x∧x ≤ 255:=by
 intro u
 induction u using Nat.strongRecOn with
 | _ u ih =>
  by_cases hu:u < 128
  ·rw [fX hu]; intro x hx; simp at hx; omega
  ·rw [gC hu]; intro x hx
   rcases List.mem_cons.1 hx with rfl | hx
   ·omega
   ·exact ih (u / 128) (by omega) x hx
end Go.Proofs.YthhkapcbocgcoaaGreatDoor
namespace Go.Proofs.YthhkapcbocgcoaaGreatDoor
open Go.RowKit
theorem fl8_bts (u:Nat):Bts (fl8 u):=by
 intro x hx
 simp only [fl8,List.mem_cons,List.not_mem_nil,or_false] at hx
 omega
theorem fi (u m n:Nat) (yb:Int) (hM:yb = (m:Int)) (hn:n = m * 256):shl8 (u / n) ((u:Int) / yb % 256) = u / m:=by
 subst hM hn
 unfold shl8
 rw [← Int.natCast_ediv,← Nat.div_div_eq_div_mul]
 generalize u / m = q
 omega
theorem fl8_back (u:Nat) (h:u < 18446744073709551616):(fl8 u).foldl shl8 0 = u:=by
 have s0:=fi u 72057594037927936 18446744073709551616 72057594037927936 rfl rfl
 rw [Nat.div_eq_of_lt h] at s0
 have s1:=fi u 281474976710656 72057594037927936 281474976710656 rfl rfl
 have s2:=fi u 1099511627776 281474976710656 1099511627776 rfl rfl
 have s3:=fi u 4294967296 1099511627776 4294967296 rfl rfl
 have s4:=fi u 16777216 4294967296 16777216 rfl rfl
 have s5:=fi u 65536 16777216 65536 rfl rfl
 have s6:=fi u 256 65536 256 rfl rfl
 have s7:shl8 (u / 256) ((u:Int) % 256) = u:=by unfold shl8; omega
 simp only [fl8,List.foldl_cons,List.foldl_nil]
 rw [s0,s1,s2,s3,s4,s5,s6,s7]
theorem fbit_lt (x:Nat) (h:x < 18446744073709551616):fbit x < 18446744073709551616:=by
 unfold fbit; split <;> omega
theorem fbit_nan (x:Nat):¬ (nanB (fbit x) = true∧fbit x ≠ 9221120237041090560):=by
 rintro ⟨Q,D⟩
 by_cases h:nanB x = true
 ·exact D (if_pos h)
 ·rw [show fbit x = x from if_neg h] at Q; exact h Q
theorem scan_putR (l r:List Int) (k:Nat):∀ (f x i acc:Nat),f = 10 - i→i ≤ 9→l.drop (k + i) = putU x ++ r→acc + x * 128 ^ i < 18446744073709551616→(0 < i→0 < x) →
  scan l k f i acc = some (acc + x * 128 ^ i,k + i + (putU x).length)
 | 0,x,i,acc,hf,hi,_,_,_=>by omega
 | f + 1,x,i,acc,hf,hi,hd,xM,vM=>by
  have h9:i = 9→x ≤ 1:=by
   intro e; subst e
   have e9:(128:Nat) ^ 9 = 9223372036854775808:=by decide
   rw [e9] at xM; omega
  by_cases hx:x < 128
  ·rw [fX hx] at hd ⊢
   obtain ⟨Q,D,_⟩:=drop_head hd
   rw [scan,if_neg (by omega),D,if_neg (by omega),if_pos (by omega)]
   have e:((x:Int) % 128).toNat = x:=by omega
   rw [e]; rfl
  ·rw [gC hx] at hd ⊢
   rw [List.cons_append] at hd
   obtain ⟨Q,D,X⟩:=drop_head hd
   rw [scan,if_neg (by omega),D,if_neg (by omega),if_neg (by omega)]
   have e:(((x:Int) % 128 + 128) % 128).toNat = x % 128:=by omega
   have e2:acc + x % 128 * 128 ^ i + x / 128 * 128 ^ (i + 1) = acc + x * 128 ^ i:=by
    rw [Nat.pow_succ,Nat.mul_comm (128 ^ i) 128,← Nat.mul_assoc,Nat.add_assoc,← Nat.add_mul,Nat.mod_add_div']
   rw [e,scan_putR l r k f (x / 128) (i + 1) _ (by omega) (by omega) X (by rw [e2]; exact xM) (by omega),e2]
   simp only [List.length_cons]
   congr 2; omega
theorem getU_putR (a r:List Int) (u:Nat) (h:u < 18446744073709551616):getU (a ++ (putU u ++ r)) a.length = some (u,a.length + (putU u).length):=by
 have:=scan_putR (a ++ (putU u ++ r)) r a.length 10 u 0 0 rfl (by omega) (by simp) (by omega) (by omega)
 simpa [getU] using this
theorem floatA_wr (a r:List Int) (x:Nat) (h:x < 18446744073709551616):dC (a ++ (fl8 (fbit x) ++ r)) a.length = some (fbit x,a.length + 8):=by
 have A:cF (a ++ (fl8 (fbit x) ++ r)) a.length 8 = fbit x:=by
  unfold cF
  rw [List.drop_left,List.take_left' (fl8_len _)]
  exact fl8_back _ (fbit_lt x h)
 rw [floatA_yes (by simp [fl8_len]) (by rw [A]; exact fbit_nan x),A]
theorem byte_push (l:List UInt8):∀ s:ByteArray,((l.map fun b=>(b.toNat:Int)).foldl (fun r n=>r.push (UInt8.ofNat n.toNat)) s).data.toList = s.data.toList ++ l:=by
 induction l with
 | nil=>intro s; simp
 | cons b l ih =>
  intro s
  rw [List.map_cons,List.foldl_cons,ih]
  simp [ByteArray.push]
theorem strB_bl (s:ByteArray):strB (bl s) = s:=by
 have h:=byte_push s.data.toList ByteArray.empty
 unfold strB bl
 generalize List.foldl _ _ _ = t at h ⊢
 obtain ⟨⟨d⟩⟩:=t
 obtain ⟨⟨e⟩⟩:=s
 simp only at h
 have:d = e:=h
 rw [this]
theorem textA_wr (a r:List Int) (s:ByteArray):textA (a ++ (cR s ++ r)) a.length = some (cutB s,a.length + (cR s).length):=by
 have hc:=eU s
 have hz:=zz_lt ((cutB s).size:Int) (by omega) (by omega)
 have hu:=getU_putR a (bl (cutB s) ++ r) (zz (cutB s).size) hz
 have e:a ++ (cR s ++ r) = a ++ (putU (zz (cutB s).size) ++ (bl (cutB s) ++ r)):=by unfold cR; simp
 rw [e,textA_yes hu (by
  rw [unz_zz]
  simp only [yQ,bl_len]
  omega),unz_zz]
 have e2:(a ++ (putU (zz (cutB s).size) ++ (bl (cutB s) ++ r))).drop (a.length + (putU (zz (cutB s).size)).length) = bl (cutB s) ++ r:=by
  rw [← List.append_assoc,List.drop_left' (by simp)]
 rw [e2,Int.toNat_natCast,List.take_left' (bl_len _),strB_bl]
 simp only [cR,yQ,bl_len]
 congr 2; omega
def bkF (e:Ev) (o:Nat):Value:=if o = 7 then yj (fbit e.cmd.p) else if o = 8 then yk (cutB e.cmd.g) else H (e.num o)
theorem rdF_wr (e:Ev) (he:e.fit) (o:Nat) (a r:List Int):rdF o (a ++ (wrF e o ++ r)) a.length = some (bkF e o,a.length + (wrF e o).length):=by
 unfold rdF wrF bkF
 split
 ·rw [floatA_wr a r _ he.p,fl8_len]; rfl
 ·split
  ·rw [textA_wr]; rfl
  ·rw [getU_putR a r _ (zz_lt _ (he.n o).1 (he.n o).2)]
   simp only [Option.map_some,unz_zz]
theorem rdEs_wr (e:Ev) (he:e.fit):∀ (os:List Nat) (x:Ev) (a r:List Int),rdEs os x (a ++ (os.flatMap (wrF e) ++ r)) a.length = some (os.foldl (fun x o=>x.put o (bkF e o)) x,a.length + (os.flatMap (wrF e)).length)
 | [],x,a,r=>by simp [rdEs]
 | o :: os,x,a,r=>by
  have Q:=rdF_wr e he o a (os.flatMap (wrF e) ++ r)
  have D:=rdEs_wr e he os (x.put o (bkF e o)) (a ++ wrF e o) r
  rw [List.flatMap_cons,List.append_assoc,rdEs_some Q]
  rw [List.append_assoc,yQ] at D
  rw [D,List.foldl_cons,yQ,Nat.add_assoc]
def bkE (e:Ev):Ev:=(shF e.kind).foldl (fun x o=>x.put o (bkF e o)) (ev0 e.kind)
theorem evA_wr (e:Ev) (he:e.fit) (E:shF e.kind ≠ []) (r:List Int):evA (evL e ++ r) 0 = some (bkE e,(evL e).length):=by
 have h:=rdEs_wr e he (shF e.kind) (ev0 e.kind) [e.kind] r
 have e1:(evL e ++ r).getD 0 0 = e.kind:=rfl
 rw [evA_yes (by simp [evL]) (by rw [e1]; exact E),e1]
 have e2:evL e ++ r = [e.kind] ++ ((shF e.kind).flatMap (wrF e) ++ r):=by simp [evL]
 rw [e2,show (0:Nat) + 1 = [e.kind].length from rfl,h]
 simp [bkE,evL]; omega
theorem evL_len (e:Ev) (he:e.fit):0 < (evL e).length∧(evL e).length ≤ 208:=by
 have Q:=flat_le e he (shF e.kind)
 have D:=shF_len e.kind
 unfold evL
 rw [List.length_cons]
 omega
theorem textL_bts (s:ByteArray):Bts (cR s):=by
 intro x hx
 rcases List.mem_append.1 hx with h | h
 ·exact putU_bts _ x h
 ·obtain ⟨b,_,rfl⟩:=List.mem_map.1 h
  have:=b.toNat_lt
  omega
theorem evL_bts (e:Ev) (E:1 ≤ e.kind∧e.kind ≤ 9):Bts (evL e):=by
 intro x hx
 rcases List.mem_cons.1 hx with rfl | h
 ·omega
 ·obtain ⟨o,_,Y⟩:=List.mem_flatMap.1 h
  unfold wrF at Y
  split at Y
  ·exact fl8_bts _ x Y
  ·split at Y
   ·exact textL_bts _ x Y
   ·exact putU_bts _ x Y
theorem shF_ne (k:Int):shF k ≠ [] ↔ 1 ≤ k∧k ≤ 9:=by
 unfold shF
 repeat' split
 all_goals simp
 all_goals omega
def sameE (a b:Ev):Bool:=(a.kind == b.kind) && ((a.id == b.id) && ((a.other == b.other) && ((a.qty == b.qty) && ((a.price == b.price) && ((a.reason == b.reason) && ((a.cmd.k == b.cmd.k) && ((a.cmd.s == b.cmd.s) && ((a.cmd.t == b.cmd.t) && ((a.cmd.l == b.cmd.l) && ((a.cmd.q == b.cmd.q) && ((a.cmd.i == b.cmd.i) && ((fbit a.cmd.p == fbit b.cmd.p) && decide (a.cmd.g.toList = b.cmd.g.toList)))))))))))))
def plainC (c:Cm):Bool:=(c.k == 0) && ((c.s == 0) && ((c.t == 0) && ((c.l == 0) && ((c.q == 0) && ((c.i == 0) && ((fbit c.p == 0) && decide (c.g.toList = [])))))))
def fldK (k:Int):List Bool:=if k = 1 then [true,false,false,false,false] else if k = 2 then [false,false,false,false,true] else if k = 3 then [true,true,true,true,false] else if k = 4 ∨ k = 5 ∨ k = 6 ∨ k = 7 ∨ k = 9 then [true,false,true,false,false] else if k = 8 then [false,false,true,false,false] else []
def numsE (e:Ev):List Int:=[e.id,e.other,e.qty,e.price,e.reason]
def restK (fs:List Bool) (ns:List Int):Bool:=(List.range 5).all fun i=>fs.getD i false || (ns.getD i 0 == 0)
def okE (e:Ev):Bool:=if fldK e.kind = [] then false else if restK (fldK e.kind) (numsE e) = false then false else
 if e.kind = 1 then (e.cmd.k == 1) && ((e.cmd.i == 0) && decide (e.cmd.g.size ≤ 13)) else if e.kind = 2 then decide (e.cmd.g.size ≤ 13) else plainC e.cmd
theorem fbit_two (x:Nat):fbit (fbit x) = fbit x:=by
 unfold fbit
 repeat' split
 all_goals first | rfl | (exfalso; simp_all)
theorem fbit_none:fbit 0 = 0:=by
 have h:nanB 0 = false:=by decide +kernel
 unfold fbit
 rw [h]
 rfl
theorem cutB_same (s:ByteArray):(cutB s).toList = s.toList ↔ s.size ≤ 13:=by
 by_cases h:s.size ≤ 12
 ·rw [show cutB s = s from if_neg (by omega)]
  exact ⟨fun _=>by omega,fun _=>rfl⟩
 ·by_cases Q:s.size = 13
  ·rw [cutB_one s Q]
   exact ⟨fun _=>by omega,fun _=>rfl⟩
  ·refine ⟨fun e=>?_,fun e=>by omega⟩
   rw [Go.ByteArray.toList_eq,Go.ByteArray.toList_eq] at e
   have e2:=congrArg List.length e
   have X:=eU s
   have h4:(cutB s).data.toList.length = (cutB s).size:=rfl
   have h5:s.data.toList.length = s.size:=rfl
   omega
theorem okE_eq (e:Ev) (E:1 ≤ e.kind∧e.kind ≤ 9):sameE (bkE e) e = okE e:=by
 obtain ⟨xn,⟨ck,cs,ct,cl,cq,ci,cp,cg⟩,id,xl,qty,xm,xk⟩:=e
 simp only at E
 rcases (show xn = 1 ∨ xn = 2 ∨ xn = 3 ∨ xn = 4 ∨ xn = 5 ∨ xn = 6 ∨ xn = 7 ∨ xn = 8 ∨ xn = 9 by omega) with rfl | rfl | rfl | rfl | rfl | rfl | rfl | rfl | rfl
 all_goals
  rw [Bool.eq_iff_iff]
  simp [sameE,okE,fldK,restK,numsE,fbit_two,cutB_same,List.range_succ,bkE,shF,ev0,shC,bkF,Ev.put,Ev.num,plainC,fbit_none]
  try grind
def da (e:Ev):Cm:=if e.kind = 1 then e.cmd else if e.kind = 2 then e.cmd else if e.kind = 6 then ⟨2,0,0,0,0,e.id,0,⟨#[]⟩⟩ else if e.kind = 7 then ⟨3,0,0,0,e.qty,e.id,0,⟨#[]⟩⟩ else if e.kind = 8 then ⟨4,0,0,0,0,0,0,⟨#[]⟩⟩ else zCm
def startsB (k:Int):Bool:=(k == 1) || ((k == 2) || ((k == 6) || ((k == 7) || (k == 8))))
end Go.Proofs.YthhkapcbocgcoaaGreatDoor
