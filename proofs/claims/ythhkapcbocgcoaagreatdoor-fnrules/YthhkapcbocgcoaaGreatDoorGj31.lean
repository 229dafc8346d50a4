/-
  The face of a reading of an event, proved by walking it: the deferred function that recovers, and the trying.
-/
import Derived.Test.YthhkapcbocgcoaaGreatDoorGj26
set_option linter.unusedVariables false
set_option maxHeartbeats 6400000
set_option maxRecDepth 100000
namespace Go.Proofs.YthhkapcbocgcoaaGreatDoor
open Go.RowKit
theorem tryE_box (w:World):Bx ((w.alloc (O (yv 0 0 0 0 0 0 0 0 ⟨#[]⟩ 0 0 0 0 0).toArray 37)).alloc (O #[.nilIface] 169)) w.heap.size (yv 0 0 0 0 0 0 0 0 ⟨#[]⟩ 0 0 0 0 0) :=
 zl (zy w (yv 0 0 0 0 0 0 0 0 ⟨#[]⟩ 0 0 0 0 0) 37) ((Below.refl (w.heap.size + 1) _).alloc (by simp) _) (by omega)
theorem tryE_err (w:World):Bx ((w.alloc (O (yv 0 0 0 0 0 0 0 0 ⟨#[]⟩ 0 0 0 0 0).toArray 37)).alloc (O #[.nilIface] 169)) (w.heap.size + 1) [.nilIface]:=by
 have h:=zy (w.alloc (O (yv 0 0 0 0 0 0 0 0 ⟨#[]⟩ 0 0 0 0 0).toArray 37)) [.nilIface] 169
 rwa [show (w.alloc (O (yv 0 0 0 0 0 0 0 0 ⟨#[]⟩ 0 0 0 0 0).toArray 37)).heap.size = w.heap.size + 1 by simp] at h
theorem gr_set1 {w W:World} {R b j:Nat} {u:Value} (h:w.grownBy W (some R)) (A:w.heap.size ≤ b):w.grownBy (W.setCell ⟨b,j,none⟩ u) (some R) :=
 ⟨h.os,h.tape,h.output,by have:=h.size; simpa [World.setCell] using this,fun i hi F=>by rw [yT _ _ _ _ (by show i ≠ b; omega)]; exact h.block i hi F⟩
theorem gR (p:Addr) (x:Value) (c k:Int) (older:List PanicEntry) (w:World) (hc:w.cell? p = some x) (hz:w.frozen? p = false) :
  CallsD Tryz.prog 180 #[.pointer (some p)] (.panicking ({ v:=cK c k,recovered:=false } :: older)) w fun e u' w' =>
   e = .returned (.tuple #[])∧u' = .panicking ({ v:=cK c k,recovered:=true } :: older)∧w' = w.setCell p (cK c k):=by
 refine callsD_of_wpS Tryz.func180 rfl fun c₀ cs hu=>?_
 simp only [cK] at hu ⊢
 apply wpS_seq
 apply wpS_region
 simp [wpOpsS,go_sem,recoverD,hu,Tryz.ntmps180,Exit.thenS,ta_fault]
 apply wpS_seq
 apply wpS_region
 simp [wpOpsS,go_sem,Exit.thenS]
 refine wpS_cond (t:=true) (by simp [Act.eval,Array.replicate]) ?_
 simp only [if_true]
 apply wpS_region
 simp [wpOpsS,go_sem,hc,hz,bodyPostS,results,Tryz.results180]
theorem catch_idleE (p:Addr) (w:World) :
  CallsD Tryz.prog 180 #[.pointer (some p)] .returning w fun e u' w'=>e = .returned (.tuple #[])∧u' = .returning∧w' = w:=by
 refine callsD_of_wpS Tryz.func180 rfl fun c₀ cs hu=>?_
 apply wpS_seq
 apply wpS_region
 simp [wpOpsS,go_sem,recoverD,hu,Tryz.ntmps180,Exit.thenS,ta_nil]
 apply wpS_seq
 apply wpS_region
 simp [wpOpsS,go_sem,Exit.thenS]
 refine wpS_cond (t:=false) (by simp [Act.eval,Array.replicate]) ?_
 simp only [Bool.false_eq_true,if_false]
 refine wpS_of_wp (wp_skip ?_)
 cases c₀
 simp_all [bodyPostS,results,Tryz.results180]
theorem tryE_ok (B:Nat) (a:Option Addr) (len cap:Nat) (k:Int) (x:Ev) (next:Int) (w:World) (hr:Rdr B w (.slice a len cap) k) (h0:0 ≤ k) (Q:k ≤ len) (hl:len ≤ 65536)
  (px:∀ w0,Below w.heap.size w w0→Calls Tryz.prog 92 #[.pointer (some ⟨B,0,none⟩)] w0 fun e w'=>w0.grownBy w' (some B)∧e = .returned (evV x)∧Rdr B w' (.slice a len cap) next) :
  Calls Tryz.prog 142 #[.pointer (some ⟨B,0,none⟩),.func (.func 92) #[] #[]] w fun e w'=>e = .returned (.tuple #[evV x,.nilIface])∧Rdr B w' (.slice a len cap) next∧w.grownBy w' (some B):=by
 have hsf:=sfl
 have hmf:∀ (fn:Fn) (first cap:Array Value) (w:World),(Instr.makeFunc fn first cap).run Tryz.prog w = .ok (.func fn first cap) w:=fun _ _ _ _=>rfl
 have jU:=yL w _ hr.1
 have xR:Below w.heap.size w ((w.alloc (O (yv 0 0 0 0 0 0 0 0 ⟨#[]⟩ 0 0 0 0 0).toArray 37)).alloc (O #[.nilIface] 169)):=((Below.refl _ w).alloc hU _).alloc (by simp) _
 have HR:=M (fF hr xR jU)
 have HX:Hid (Bx ((w.alloc (O (yv 0 0 0 0 0 0 0 0 ⟨#[]⟩ 0 0 0 0 0).toArray 37)).alloc (O #[.nilIface] 169)) w.heap.size (yv 0 0 0 0 0 0 0 0 ⟨#[]⟩ 0 0 0 0 0)):=tryE_box w
 have HY:Hid (Bx ((w.alloc (O (yv 0 0 0 0 0 0 0 0 ⟨#[]⟩ 0 0 0 0 0).toArray 37)).alloc (O #[.nilIface] 169)) (w.heap.size + 1) [.nilIface]):=tryE_err w
 have HZ:Hid (((w.alloc (O (yv 0 0 0 0 0 0 0 0 ⟨#[]⟩ 0 0 0 0 0).toArray 37)).alloc (O #[.nilIface] 169)).heap.size = w.heap.size + 2):=by show _ = _; simp
 have HB:=M xR
 have HRd:=M px
 clear hr px xR
 obtain ⟨xn,⟨ck,cs,ct,cl,cq,ci,cp,cg⟩,id,xl,qty,xm,xk⟩:=x
 go_enter_defers Tryz.func142,Tryz.ntmps142
 go_wp2_with fail
 generalize ((w.alloc (O (yv 0 0 0 0 0 0 0 0 ⟨#[]⟩ 0 0 0 0 0).toArray 37)).alloc (O #[.nilIface] 169)) = W1 at HR HX HY HZ HB ⊢
 refine (check_ok B k a len cap _ (U HR) h0 Q hl).mono ?_
 rintro e w1 ⟨rfl,q,rfl⟩
 go_wp2_with fail
 refine (U HRd _ (dI (U HB) q)).mono ?_
 rintro e w2 ⟨hg,rfl,hr2⟩
 have hz:=U HZ
 have hX:Bx w2 w.heap.size (yv 0 0 0 0 0 0 0 0 ⟨#[]⟩ 0 0 0 0 0):=cE (eH (U HX) q) (hg.block w.heap.size (by show w.heap.size < W1.heap.size; omega) (by simp; omega))
 have hY:Bx w2 (w.heap.size + 1) [.nilIface]:=cE (eH (U HY) q) (hg.block (w.heap.size + 1) (by show w.heap.size + 1 < W1.heap.size; omega) (by simp; omega))
 have HG:Hid (w.grownBy w2 (some B)):=zA (bel_gr (U HB) B) (zA (cS W1 q _) hg)
 have vS:=M hr2
 have jq:=M hX
 have HYY:=M hY
 have z0:=zb hX 0 rfl
 have f0:=zd hX 0 (by decide)
 have z1:=zb hX 1 rfl
 have f1:=zd hX 1 (by decide)
 have z2:=zb hX 2 rfl
 have f2:=zd hX 2 (by decide)
 have z3:=zb hX 3 rfl
 have f3:=zd hX 3 (by decide)
 have z4:=zb hX 4 rfl
 have f4:=zd hX 4 (by decide)
 have z5:=zb hX 5 rfl
 have f5:=zd hX 5 (by decide)
 have z6:=zb hX 6 rfl
 have f6:=zd hX 6 (by decide)
 have z7:=zb hX 7 rfl
 have f7:=zd hX 7 (by decide)
 have z8:=zb hX 8 rfl
 have f8:=zd hX 8 (by decide)
 have z9:=zb hX 9 rfl
 have f9:=zd hX 9 (by decide)
 have pV:=zb hX 10 rfl
 have f10:=zd hX 10 (by decide)
 have pW:=zb hX 11 rfl
 have f11:=zd hX 11 (by decide)
 have pX:=zb hX 12 rfl
 have f12:=zd hX 12 (by decide)
 have pY:=zb hX 13 rfl
 have f13:=zd hX 13 (by decide)
 have ze:=zb hY 0 rfl
 have fe:=zd hY 0 (by decide)
 unfold evV
 simp only
 clear hg hr2 hX hY hz HX HY HR HB HZ HRd
 go_wp2_with fail
 rw [set14]
 have HXF0:=zB (us:=(yv xn ck cs ct cl cq ci cp cg id xl qty xm xk)) (U jq) rfl
 have xY:=M (fd (j:=0) (u:=.nilIface) HXF0 (show w.heap.size ≠ w.heap.size + 1 by omega))
 have HYF:=M (eh (j:=0) (u:=.nilIface) (bx_others (us:=(yv xn ck cs ct cl cq ci cp cg id xl qty xm xk)) (U HYY) (show w.heap.size + 1 ≠ w.heap.size by omega)) (by decide))
 have qV:=M (zA (gr_setCells (yv xn ck cs ct cl cq ci cp cg id xl qty xm xk) (U HG) (Nat.le_refl w.heap.size)) (yS _ _))
 have HRF0:=rdr_setCells (yv xn ck cs ct cl cq ci cp cg id xl qty xm xk) (U vS) (show B ≠ w.heap.size by omega)
 have bB:=M (rdr_grown HRF0 (ei _ ⟨w.heap.size + 1,0,none⟩ .nilIface) (by show B ≠ w.heap.size + 1; omega))
 have qV:=M (gr_set1 (j:=0) (u:=.nilIface) (U qV) (show w.heap.size ≤ w.heap.size + 1 by omega))
 clear z0 f0 z1 f1 z2 f2 z3 f3 z4 f4 z5 f5 z6 f6 z7 f7 z8 f8 z9 f9 pV f10 pW f11 pX f12 pY f13 ze fe HXF0 HRF0 jq HYY HG vS
 generalize (w2.setCells w.heap.size 0 (yv xn ck cs ct cl cq ci cp cg id xl qty xm xk)).setCell ⟨w.heap.size + 1,0,none⟩ .nilIface = WF at xY HYF qV bB ⊢
 refine leaves_cons (f:=180) (args:=#[.pointer (some ⟨w.heap.size + 1,0,none⟩)]) (by simp) (by simp [go_sem]) ?_
 refine (catch_idleE ⟨w.heap.size + 1,0,none⟩ _).mono ?_
 rintro e u' w'' ⟨rfl,rfl,hw⟩
 subst hw
 obtain ⟨d0,d1,d2,d3,d4,d5,d6,d7,d8,d9,pf,pg,ph,pj⟩:=yz (U xY)
 have de:=zb (U HYF) 0 rfl
 simp [Leaves,settle,results,Tryz.results142,go_sem,d0,d1,d2,d3,d4,d5,d6,d7,d8,d9,pf,pg,ph,pj,de]
 exact ⟨rfl,U bB,U qV⟩
def zEv:Ev:=⟨0,⟨0,0,0,0,0,0,0,⟨#[]⟩⟩,0,0,0,0,0⟩
theorem tryE_fail (B:Nat) (a:Option Addr) (len cap:Nat) (k c:Int) (w:World) (hr:Rdr B w (.slice a len cap) k) (h0:0 ≤ k) (Q:k ≤ len) (hl:len ≤ 65536)
  (px:∀ w0,Below w.heap.size w w0→Calls Tryz.prog 92 #[.pointer (some ⟨B,0,none⟩)] w0 fun e w'=>w0.grownBy w' (some B)∧∃ p,e = .panicked (cX c p)) :
  Calls Tryz.prog 142 #[.pointer (some ⟨B,0,none⟩),.func (.func 92) #[] #[]] w fun e w'=>(∃ p,e = .returned (.tuple #[evV zEv,cK c p]))∧w.grownBy w' (some B):=by
 have hsf:=sfl
 have hmf:∀ (fn:Fn) (first cap:Array Value) (w:World),(Instr.makeFunc fn first cap).run Tryz.prog w = .ok (.func fn first cap) w:=fun _ _ _ _=>rfl
 have jU:=yL w _ hr.1
 have xR:Below w.heap.size w ((w.alloc (O (yv 0 0 0 0 0 0 0 0 ⟨#[]⟩ 0 0 0 0 0).toArray 37)).alloc (O #[.nilIface] 169)):=((Below.refl _ w).alloc hU _).alloc (by simp) _
 have HR:=M (fF hr xR jU)
 have HX:Hid (Bx ((w.alloc (O (yv 0 0 0 0 0 0 0 0 ⟨#[]⟩ 0 0 0 0 0).toArray 37)).alloc (O #[.nilIface] 169)) w.heap.size (yv 0 0 0 0 0 0 0 0 ⟨#[]⟩ 0 0 0 0 0)):=tryE_box w
 have HY:Hid (Bx ((w.alloc (O (yv 0 0 0 0 0 0 0 0 ⟨#[]⟩ 0 0 0 0 0).toArray 37)).alloc (O #[.nilIface] 169)) (w.heap.size + 1) [.nilIface]):=tryE_err w
 have HZ:Hid (((w.alloc (O (yv 0 0 0 0 0 0 0 0 ⟨#[]⟩ 0 0 0 0 0).toArray 37)).alloc (O #[.nilIface] 169)).heap.size = w.heap.size + 2):=by show _ = _; simp
 have HB:=M xR
 have HRd:=M px
 clear hr px xR
 unfold evV zEv
 simp only
 go_enter_defers Tryz.func142,Tryz.ntmps142
 go_wp2_with fail
 generalize ((w.alloc (O (yv 0 0 0 0 0 0 0 0 ⟨#[]⟩ 0 0 0 0 0).toArray 37)).alloc (O #[.nilIface] 169)) = W1 at HR HX HY HZ HB ⊢
 refine (check_ok B k a len cap _ (U HR) h0 Q hl).mono ?_
 rintro e w1 ⟨rfl,q,rfl⟩
 go_wp2_with fail
 refine (U HRd _ (dI (U HB) q)).mono ?_
 rintro e w2 ⟨hg,p,rfl⟩
 have hz:=U HZ
 have hX:Bx w2 w.heap.size (yv 0 0 0 0 0 0 0 0 ⟨#[]⟩ 0 0 0 0 0):=cE (eH (U HX) q) (hg.block w.heap.size (by show w.heap.size < W1.heap.size; omega) (by simp; omega))
 have hY:Bx w2 (w.heap.size + 1) [.nilIface]:=cE (eH (U HY) q) (hg.block (w.heap.size + 1) (by show w.heap.size + 1 < W1.heap.size; omega) (by simp; omega))
 have HG:Hid (w.grownBy w2 (some B)):=zA (bel_gr (U HB) B) (zA (cS W1 q _) hg)
 clear hg
 have xY:=fd (j:=0) (u:=cK c p) hX (show w.heap.size ≠ w.heap.size + 1 by omega)
 have HYF:=eh (j:=0) (u:=cK c p) hY (by decide)
 have qV:=M (gr_set1 (j:=0) (u:=cK c p) (U HG) (show w.heap.size ≤ w.heap.size + 1 by omega))
 have hcE:=zb hY 0 rfl
 have hfE:=zd hY 0 (by decide)
 clear HX HY HR HB HZ hz
 go_wp2_with fail
 refine leaves_cons (f:=180) (args:=#[.pointer (some ⟨w.heap.size + 1,0,none⟩)]) (by simp) (by simp [go_sem]) ?_
 refine (gR ⟨w.heap.size + 1,0,none⟩ .nilIface c p [] _ hcE hfE).mono ?_
 rintro e u' w'' ⟨rfl,rfl,hw⟩
 rw [hw]
 clear hw
 generalize w2.setCell ⟨w.heap.size + 1,0,none⟩ (cK c p) = WF at xY HYF qV ⊢
 have d0:=zb xY 0 rfl
 have d1:=zb xY 1 rfl
 have d2:=zb xY 2 rfl
 have d3:=zb xY 3 rfl
 have d4:=zb xY 4 rfl
 have d5:=zb xY 5 rfl
 have d6:=zb xY 6 rfl
 have d7:=zb xY 7 rfl
 have d8:=zb xY 8 rfl
 have d9:=zb xY 9 rfl
 have pf:=zb xY 10 rfl
 have pg:=zb xY 11 rfl
 have ph:=zb xY 12 rfl
 have pj:=zb xY 13 rfl
 have de:=zb HYF 0 rfl
 simp [Leaves,settle,results,Tryz.results142,go_sem,d0,d1,d2,d3,d4,d5,d6,d7,d8,d9,pf,pg,ph,pj,de]
 exact ⟨⟨p,rfl⟩,U qV⟩
theorem tryE_check (B:Nat) (a:Option Addr) (len cap:Nat) (k c:Int) (w:World) (hr:Rdr B w (.slice a len cap) k)
  (hchk:∀ w0,Rdr B w0 (.slice a len cap) k→Calls Tryz.prog 181 #[.pointer (some ⟨B,0,none⟩)] w0 fun e w'=>e = .panicked (cX c k)∧∃ q,w' = w0.drewN q) :
  Calls Tryz.prog 142 #[.pointer (some ⟨B,0,none⟩),.func (.func 92) #[] #[]] w fun e w'=>(∃ p,e = .returned (.tuple #[evV zEv,cK c p]))∧w.grownBy w' (some B):=by
 have hsf:=sfl
 have hmf:∀ (fn:Fn) (first cap:Array Value) (w:World),(Instr.makeFunc fn first cap).run Tryz.prog w = .ok (.func fn first cap) w:=fun _ _ _ _=>rfl
 have jU:=yL w _ hr.1
 have xR:Below w.heap.size w ((w.alloc (O (yv 0 0 0 0 0 0 0 0 ⟨#[]⟩ 0 0 0 0 0).toArray 37)).alloc (O #[.nilIface] 169)):=((Below.refl _ w).alloc hU _).alloc (by simp) _
 have HR:=M (fF hr xR jU)
 have HX:Hid (Bx ((w.alloc (O (yv 0 0 0 0 0 0 0 0 ⟨#[]⟩ 0 0 0 0 0).toArray 37)).alloc (O #[.nilIface] 169)) w.heap.size (yv 0 0 0 0 0 0 0 0 ⟨#[]⟩ 0 0 0 0 0)):=tryE_box w
 have HY:Hid (Bx ((w.alloc (O (yv 0 0 0 0 0 0 0 0 ⟨#[]⟩ 0 0 0 0 0).toArray 37)).alloc (O #[.nilIface] 169)) (w.heap.size + 1) [.nilIface]):=tryE_err w
 have HZ:Hid (((w.alloc (O (yv 0 0 0 0 0 0 0 0 ⟨#[]⟩ 0 0 0 0 0).toArray 37)).alloc (O #[.nilIface] 169)).heap.size = w.heap.size + 2):=by show _ = _; simp
 have HB:=M xR
 have HCk:=M hchk
 clear hr hchk xR
 unfold evV zEv
 simp only
 go_enter_defers Tryz.func142,Tryz.ntmps142
 go_wp2_with fail
 generalize ((w.alloc (O (yv 0 0 0 0 0 0 0 0 ⟨#[]⟩ 0 0 0 0 0).toArray 37)).alloc (O #[.nilIface] 169)) = W1 at HR HX HY HZ HB ⊢
 refine (U HCk _ (U HR)).mono ?_
 rintro e w2 ⟨rfl,q,kW⟩
 have hg:(W1.drewN q).grownBy w2 (some B):=by rw [kW]; exact yS _ _
 clear kW
 have hz:=U HZ
 have hX:Bx w2 w.heap.size (yv 0 0 0 0 0 0 0 0 ⟨#[]⟩ 0 0 0 0 0):=cE (eH (U HX) q) (hg.block w.heap.size (by show w.heap.size < W1.heap.size; omega) (by simp; omega))
 have hY:Bx w2 (w.heap.size + 1) [.nilIface]:=cE (eH (U HY) q) (hg.block (w.heap.size + 1) (by show w.heap.size + 1 < W1.heap.size; omega) (by simp; omega))
 have HG:Hid (w.grownBy w2 (some B)):=zA (bel_gr (U HB) B) (zA (cS W1 q _) hg)
 clear hg
 have xY:=fd (j:=0) (u:=cK c k) hX (show w.heap.size ≠ w.heap.size + 1 by omega)
 have HYF:=eh (j:=0) (u:=cK c k) hY (by decide)
 have qV:=M (gr_set1 (j:=0) (u:=cK c k) (U HG) (show w.heap.size ≤ w.heap.size + 1 by omega))
 have hcE:=zb hY 0 rfl
 have hfE:=zd hY 0 (by decide)
 clear HX HY HR HB HZ hz
 go_wp2_with fail
 refine leaves_cons (f:=180) (args:=#[.pointer (some ⟨w.heap.size + 1,0,none⟩)]) (by simp) (by simp [go_sem]) ?_
 refine (gR ⟨w.heap.size + 1,0,none⟩ .nilIface c k [] _ hcE hfE).mono ?_
 rintro e u' w'' ⟨rfl,rfl,hw⟩
 rw [hw]
 clear hw
 generalize w2.setCell ⟨w.heap.size + 1,0,none⟩ (cK c k) = WF at xY HYF qV ⊢
 have d0:=zb xY 0 rfl
 have d1:=zb xY 1 rfl
 have d2:=zb xY 2 rfl
 have d3:=zb xY 3 rfl
 have d4:=zb xY 4 rfl
 have d5:=zb xY 5 rfl
 have d6:=zb xY 6 rfl
 have d7:=zb xY 7 rfl
 have d8:=zb xY 8 rfl
 have d9:=zb xY 9 rfl
 have pf:=zb xY 10 rfl
 have pg:=zb xY 11 rfl
 have ph:=zb xY 12 rfl
 have pj:=zb xY 13 rfl
 have de:=zb HYF 0 rfl
 simp [Leaves,settle,results,Tryz.results142,go_sem,d0,d1,d2,d3,d4,d5,d6,d7,d8,d9,pf,pg,ph,pj,de]
 exact ⟨⟨k,rfl⟩,U qV⟩
def evR (l:List Int) (at_:Int):Ev × Int × Int :=
 if 65536 < l.length then (zEv,0,2) else if at_ < 0 ∨ (l.length:Int) < at_ then (zEv,0,5)
 else match evA l at_.toNat with | some (x,n)=>(x,(n:Int),0) | none=>(zEv,0,3)
def tupE (x:Ev) (y:Int × Int):Value:=.tuple #[evV x,H y.1,H y.2]
theorem evR_long {l:List Int} {k:Int} (h:65536 < l.length):evR l k = (zEv,0,2):=by unfold evR; rw [if_pos h]
theorem evR_out {l:List Int} {k:Int} (h:¬ 65536 < l.length) (Q:k < 0 ∨ (l.length:Int) < k):evR l k = (zEv,0,5):=by unfold evR; rw [if_neg h,if_pos Q]
theorem evR_some {l:List Int} {k:Nat} {x:Ev} {n:Nat} (h:¬ 65536 < l.length) (Q:k ≤ l.length) (hg:evA l k = some (x,n)):evR l k = (x,(n:Int),0):=by
 unfold evR; rw [if_neg h,if_neg (by omega),Int.toNat_natCast,hg]
theorem evR_none {l:List Int} {k:Nat} (h:¬ 65536 < l.length) (Q:k ≤ l.length) (hg:evA l k = none):evR l k = (zEv,0,3):=by
 unfold evR; rw [if_neg h,if_neg (by omega),Int.toNat_natCast,hg]
theorem rdE_box (w:World) (v:Value) (at_:Int):Bx ((w.alloc (O (yv 0 0 0 0 0 0 0 0 ⟨#[]⟩ 0 0 0 0 0).toArray 37)).alloc (O #[v,H at_] 167)) w.heap.size (yv 0 0 0 0 0 0 0 0 ⟨#[]⟩ 0 0 0 0 0)∧Rdr (w.heap.size + 1) ((w.alloc (O (yv 0 0 0 0 0 0 0 0 ⟨#[]⟩ 0 0 0 0 0).toArray 37)).alloc (O #[v,H at_] 167)) v at_∧yn w ((w.alloc (O (yv 0 0 0 0 0 0 0 0 ⟨#[]⟩ 0 0 0 0 0).toArray 37)).alloc (O #[v,H at_] 167))∧((w.alloc (O (yv 0 0 0 0 0 0 0 0 ⟨#[]⟩ 0 0 0 0 0).toArray 37)).alloc (O #[v,H at_] 167)).heap.size = w.heap.size + 2:=by
 have hs:(w.alloc (O (yv 0 0 0 0 0 0 0 0 ⟨#[]⟩ 0 0 0 0 0).toArray 37)).heap.size = w.heap.size + 1:=by simp
 refine ⟨zl (zy w (yv 0 0 0 0 0 0 0 0 ⟨#[]⟩ 0 0 0 0 0) 37) ((Below.refl (w.heap.size + 1) _).alloc (by simp) _) (by omega),?_,((Below.refl _ w).alloc hU _).alloc (by simp) _,by simp⟩
 have h:=rdr_new (w.alloc (O (yv 0 0 0 0 0 0 0 0 ⟨#[]⟩ 0 0 0 0 0).toArray 37)) v at_
 rwa [hs] at h
theorem readE_fine (v:Value) (len:Nat) (a:Option Addr) (cap:Nat) (hv:v = .slice a len cap) (at_:Int) (x:Ev) (next:Int) (w:World)
  (htry:∀ w0,w0 = ((w.alloc (O (yv 0 0 0 0 0 0 0 0 ⟨#[]⟩ 0 0 0 0 0).toArray 37)).alloc (O #[v,H at_] 167))→Calls Tryz.prog 142 #[.pointer (some ⟨w.heap.size + 1,0,none⟩),.func (.func 92) #[] #[]] w0 fun e w'=>e = .returned (.tuple #[evV x,.nilIface])∧Rdr (w.heap.size + 1) w' v next∧w0.grownBy w' (some (w.heap.size + 1))) :
  Calls Tryz.prog 91 #[v,H at_,.func (.func 92) #[] #[]] w fun e w'=>e = .returned (tupE x (next,0))∧yn w w':=by
 have hsf:=sfl
 obtain ⟨hX,F,hB,hZ⟩:=rdE_box w v at_
 have HT:=M (htry _ rfl)
 subst hv
 have HX:=M hX
 have HB:=M hB
 have HZ:=M hZ
 clear htry hX F hB hZ
 obtain ⟨xn,⟨ck,cs,ct,cl,cq,ci,cp,cg⟩,id,xl,qty,xm,xk⟩:=x
 go_enter Tryz.func91,Tryz.ntmps91
 go_wp2_with fail
 generalize ((w.alloc (O (yv 0 0 0 0 0 0 0 0 ⟨#[]⟩ 0 0 0 0 0).toArray 37)).alloc (O #[.slice a len cap,H at_] 167)) = W0 at HT HX HB HZ ⊢
 refine (U HT).mono ?_
 rintro e W1 ⟨rfl,hr,hg⟩
 have hz:=U HZ
 have xU:=M ((U HB).trans (gr_below hg (show w.heap.size ≤ w.heap.size + 1 by omega) (by omega)))
 have hX1:=cE (U HX) (hg.block w.heap.size (by omega) (by simp))
 have uz:w.heap.size + 2 ≤ W1.heap.size:=by have:=hg.size; omega
 have qv:=gZ W1 (O (yv xn ck cs ct cl cq ci cp cg id xl qty xm xk).toArray 37)
 have pF:Hid (Bx (W1.alloc (O (yv xn ck cs ct cl cq ci cp cg id xl qty xm xk).toArray 37)) W1.heap.size (yv xn ck cs ct cl cq ci cp cg id xl qty xm xk)):=zy W1 (yv xn ck cs ct cl cq ci cp cg id xl qty xm xk) 37
 have xW:=M (zl hX1 qv (by omega))
 have hr2:=fF hr qv (by omega)
 have xt:=M ((U xU).trans (qv.mono (by omega)))
 unfold evV
 simp only
 clear hg HX HB HZ hz hX1 qv xU hr HT
 go_wp2_with fail
 generalize (W1.alloc (O (yv xn ck cs ct cl cq ci cp cg id xl qty xm xk).toArray 37)) = W2 at pF xW hr2 xt ⊢
 obtain ⟨c1,c2,c3⟩:=hr2
 obtain ⟨x0,x1,x2,x3,x4,x5,x6,x7,x8,x9,x10,x11,x12,x13⟩:=yz (U pF)
 have z0:=zb (U xW) 0 rfl
 have fz0:=zd (U xW) 0 (by decide)
 have z1:=zb (U xW) 1 rfl
 have fz1:=zd (U xW) 1 (by decide)
 have z2:=zb (U xW) 2 rfl
 have fz2:=zd (U xW) 2 (by decide)
 have z3:=zb (U xW) 3 rfl
 have fz3:=zd (U xW) 3 (by decide)
 have z4:=zb (U xW) 4 rfl
 have fz4:=zd (U xW) 4 (by decide)
 have z5:=zb (U xW) 5 rfl
 have fz5:=zd (U xW) 5 (by decide)
 have z6:=zb (U xW) 6 rfl
 have fz6:=zd (U xW) 6 (by decide)
 have z7:=zb (U xW) 7 rfl
 have fz7:=zd (U xW) 7 (by decide)
 have z8:=zb (U xW) 8 rfl
 have fz8:=zd (U xW) 8 (by decide)
 have z9:=zb (U xW) 9 rfl
 have fz9:=zd (U xW) 9 (by decide)
 have pV:=zb (U xW) 10 rfl
 have fz10:=zd (U xW) 10 (by decide)
 have pW:=zb (U xW) 11 rfl
 have fz11:=zd (U xW) 11 (by decide)
 have pX:=zb (U xW) 12 rfl
 have fz12:=zd (U xW) 12 (by decide)
 have pY:=zb (U xW) 13 rfl
 have fz13:=zd (U xW) 13 (by decide)
 have xY:=M (zB (us:=(yv xn ck cs ct cl cq ci cp cg id xl qty xm xk)) (U xW) rfl)
 have HBF:=M (zj w.heap.size hU (yv xn ck cs ct cl cq ci cp cg id xl qty xm xk) 0 W2 (U xt))
 clear pF xW xt
 go_region_with (fail)
 all_goals try go_wp2_with fail
 all_goals
  rw [set14]
  generalize (W2.setCells w.heap.size 0 (yv xn ck cs ct cl cq ci cp cg id xl qty xm xk)) = WF at xY HBF ⊢
  obtain ⟨d0,d1,d2,d3,d4,d5,d6,d7,d8,d9,pf,pg,ph,pj⟩:=yz (cf (U xY))
  refine bodyPost_ret (v:=tupE ⟨xn,⟨ck,cs,ct,cl,cq,ci,cp,cg⟩,id,xl,qty,xm,xk⟩ (next,0)) ?_ rfl ⟨rfl,(U HBF).drew⟩
  simp [results,Tryz.f91,go_sem,d0,d1,d2,d3,d4,d5,d6,d7,d8,d9,pf,pg,ph,pj,tupE,evV]
theorem gN (v:Value) (len:Nat) (a:Option Addr) (cap:Nat) (hv:v = .slice a len cap) (at_ c:Int) (w:World) (hE:ErrT w)
  (htry:∀ w0,w0 = ((w.alloc (O (yv 0 0 0 0 0 0 0 0 ⟨#[]⟩ 0 0 0 0 0).toArray 37)).alloc (O #[v,H at_] 167))→Calls Tryz.prog 142 #[.pointer (some ⟨w.heap.size + 1,0,none⟩),.func (.func 92) #[] #[]] w0 fun e w'=>(∃ p,e = .returned (.tuple #[evV zEv,cK c p]))∧w0.grownBy w' (some (w.heap.size + 1))) :
  Calls Tryz.prog 91 #[v,H at_,.func (.func 92) #[] #[]] w fun e w'=>e = .returned (tupE zEv (0,c))∧yn w w':=by
 have hsf:=sfl
 obtain ⟨hX,F,hB,hZ⟩:=rdE_box w v at_
 have HT:=M (htry _ rfl)
 subst hv
 have HX:=M hX
 have HB:=M hB
 have HZ:=M hZ
 have HE:=M hE
 clear htry hX F hB hZ hE
 go_enter Tryz.func91,Tryz.ntmps91
 go_wp2_with fail
 generalize ((w.alloc (O (yv 0 0 0 0 0 0 0 0 ⟨#[]⟩ 0 0 0 0 0).toArray 37)).alloc (O #[.slice a len cap,H at_] 167)) = W0 at HT HX HB HZ ⊢
 refine (U HT).mono ?_
 rintro e W1 ⟨⟨p,rfl⟩,hg⟩
 have hz:=U HZ
 have ub:=(U HB).trans (gr_below hg (show w.heap.size ≤ w.heap.size + 1 by omega) (by omega))
 have hX1:=cE (U HX) (hg.block w.heap.size (by omega) (by simp))
 have uz:w.heap.size + 2 ≤ W1.heap.size:=by have:=hg.size; omega
 have qv:=gZ W1 (O (yv 0 0 0 0 0 0 0 0 ⟨#[]⟩ 0 0 0 0 0).toArray 37)
 have uM:(W1.alloc (O (yv 0 0 0 0 0 0 0 0 ⟨#[]⟩ 0 0 0 0 0).toArray 37)).heap.size = W1.heap.size + 1:=by simp
 have hbb:Below (W1.heap.size + 1) (W1.alloc (O (yv 0 0 0 0 0 0 0 0 ⟨#[]⟩ 0 0 0 0 0).toArray 37)) ((W1.alloc (O (yv 0 0 0 0 0 0 0 0 ⟨#[]⟩ 0 0 0 0 0).toArray 37)).alloc (O (yv 0 0 0 0 0 0 0 0 ⟨#[]⟩ 0 0 0 0 0).toArray 37)):=(Below.refl _ _).alloc (by omega) _
 have pG:Hid (Bx ((W1.alloc (O (yv 0 0 0 0 0 0 0 0 ⟨#[]⟩ 0 0 0 0 0).toArray 37)).alloc (O (yv 0 0 0 0 0 0 0 0 ⟨#[]⟩ 0 0 0 0 0).toArray 37)) (W1.heap.size + 1) (yv 0 0 0 0 0 0 0 0 ⟨#[]⟩ 0 0 0 0 0)):=by
  have h:=zy (W1.alloc (O (yv 0 0 0 0 0 0 0 0 ⟨#[]⟩ 0 0 0 0 0).toArray 37)) (yv 0 0 0 0 0 0 0 0 ⟨#[]⟩ 0 0 0 0 0) 37
  rw [uM] at h
  exact h
 have vI:=M (zl (zl hX1 qv (by omega)) hbb (by omega))
 have xG:=M ((ub.trans (qv.mono (by omega))).trans (hbb.mono (by omega)))
 have HZ3:Hid (((W1.alloc (O (yv 0 0 0 0 0 0 0 0 ⟨#[]⟩ 0 0 0 0 0).toArray 37)).alloc (O (yv 0 0 0 0 0 0 0 0 ⟨#[]⟩ 0 0 0 0 0).toArray 37)).heap.size = W1.heap.size + 2):=by show _ = _; simp
 have pB:=M (zW (U HE) (U xG) hU)
 unfold evV zEv cK
 simp only
 clear hg HX HB HZ hz hX1 qv hbb ub HT uM
 go_wp2_with fail
 generalize ((W1.alloc (O (yv 0 0 0 0 0 0 0 0 ⟨#[]⟩ 0 0 0 0 0).toArray 37)).alloc (O (yv 0 0 0 0 0 0 0 0 ⟨#[]⟩ 0 0 0 0 0).toArray 37)) = W2 at pG vI xG HZ3 pB ⊢
 obtain ⟨y0,y1,y2,y3,y4,y5,y6,y7,y8,y9,y10,y11,y12,y13⟩:=yz (U pG)
 have uX:Hid (Calls Tryz.prog 143 #[.iface 205 (.agg #[H c,H p])] W2.drew fun e w3=>e = .returned (H c)∧Bx w3 (W1.heap.size + 1) (yv 0 0 0 0 0 0 0 0 ⟨#[]⟩ 0 0 0 0 0)∧Bx w3 w.heap.size (yv 0 0 0 0 0 0 0 0 ⟨#[]⟩ 0 0 0 0 0)∧yn w w3):=by
  refine (codeOf_any c p W2.drew (U pB)).mono ?_
  rintro e w3 ⟨rfl,xQ⟩
  have hzz:W2.drew.heap.size = W1.heap.size + 2:=U HZ3
  exact ⟨rfl,zl (cf (U pG)) xQ (by omega),zl (cf (U vI)) xQ (by omega),(U xG).drew.trans (xQ.mono (U xG).drew.size)⟩
 go_region_with (go_at_call 143; refine (U uX).mono ?_; rintro e w3 ⟨rfl,hN,hQ,hQB⟩; have HQ:=M hQ; have HQB:=M hQB; have g0:=zb (hN) 0 rfl; have g1:=zb (hN) 1 rfl; have g2:=zb (hN) 2 rfl; have g3:=zb (hN) 3 rfl; have g4:=zb (hN) 4 rfl; have g5:=zb (hN) 5 rfl; have g6:=zb (hN) 6 rfl; have g7:=zb (hN) 7 rfl; have g8:=zb (hN) 8 rfl; have g9:=zb (hN) 9 rfl; have qL:=zb (hN) 10 rfl; have ql:=zb (hN) 11 rfl; have ud:=zb (hN) 12 rfl; have kB:=zb (hN) 13 rfl; have z0:=zb (hQ) 0 rfl; have fz0:=zd (hQ) 0 (by decide); have z1:=zb (hQ) 1 rfl; have fz1:=zd (hQ) 1 (by decide); have z2:=zb (hQ) 2 rfl; have fz2:=zd (hQ) 2 (by decide); have z3:=zb (hQ) 3 rfl; have fz3:=zd (hQ) 3 (by decide); have z4:=zb (hQ) 4 rfl; have fz4:=zd (hQ) 4 (by decide); have z5:=zb (hQ) 5 rfl; have fz5:=zd (hQ) 5 (by decide); have z6:=zb (hQ) 6 rfl; have fz6:=zd (hQ) 6 (by decide); have z7:=zb (hQ) 7 rfl; have fz7:=zd (hQ) 7 (by decide); have z8:=zb (hQ) 8 rfl; have fz8:=zd (hQ) 8 (by decide); have z9:=zb (hQ) 9 rfl; have fz9:=zd (hQ) 9 (by decide); have pV:=zb (hQ) 10 rfl; have fz10:=zd (hQ) 10 (by decide); have pW:=zb (hQ) 11 rfl; have fz11:=zd (hQ) 11 (by decide); have pX:=zb (hQ) 12 rfl; have fz12:=zd (hQ) 12 (by decide); have pY:=zb (hQ) 13 rfl; have fz13:=zd (hQ) 13 (by decide); clear hN hQ hQB)
 all_goals try go_wp2_with fail
 all_goals
  rw [set14]
  have xY:=M (zB (us:=(yv 0 0 0 0 0 0 0 0 ⟨#[]⟩ 0 0 0 0 0)) (U HQ) rfl)
  have HBF:=M (zj w.heap.size hU (yv 0 0 0 0 0 0 0 0 ⟨#[]⟩ 0 0 0 0 0) 0 w3 (U HQB))
  generalize (w3.setCells w.heap.size 0 (yv 0 0 0 0 0 0 0 0 ⟨#[]⟩ 0 0 0 0 0)) = WF at xY HBF ⊢
  obtain ⟨d0,d1,d2,d3,d4,d5,d6,d7,d8,d9,pf,pg,ph,pj⟩:=yz (U xY)
  refine bodyPost_ret (v:=tupE zEv (0,c)) ?_ rfl ⟨rfl,U HBF⟩
  simp [results,Tryz.f91,go_sem,d0,d1,d2,d3,d4,d5,d6,d7,d8,d9,pf,pg,ph,pj,tupE,evV,zEv]
theorem readE_any (v:Value) (l:List Int) (at_:Int) (w:World) (xN:Rd w v l) (uq:CapOk v) (A:Bts l) (hE:ErrT w) :
  Calls Tryz.prog 91 #[v,H at_,.func (.func 92) #[] #[]] w fun e w'=>e = .returned (tupE (evR l at_).1 (evR l at_).2)∧yn w w':=by
 obtain ⟨a,cap,hv⟩:=rd_len xN
 by_cases Q:65536 < l.length
 ·rw [evR_long Q]
  refine gN v l.length a cap hv at_ 2 w hE fun w0 hw0=>?_
  subst hw0
  have hr:=(rdE_box w v at_).2.1
  subst hv
  exact tryE_check (w.heap.size + 1) a l.length cap at_ 2 _ hr fun w0 h=>check_long _ at_ a l.length cap w0 h Q
 by_cases D:at_ < 0 ∨ (l.length:Int) < at_
 ·rw [evR_out Q D]
  refine gN v l.length a cap hv at_ 5 w hE fun w0 hw0=>?_
  subst hw0
  have hr:=(rdE_box w v at_).2.1
  subst hv
  exact tryE_check (w.heap.size + 1) a l.length cap at_ 5 _ hr fun w0 h=>check_out _ at_ a l.length cap w0 h D (by omega)
 obtain ⟨k,rfl⟩:=Int.eq_ofNat_of_zero_le (show 0 ≤ at_ by omega)
 have E:k ≤ l.length:=by omega
 obtain ⟨_,hr,xi,hz⟩:=rdE_box w v (k:Int)
 have hev:∀ w0,Below (w.heap.size + 2) ((w.alloc (O (yv 0 0 0 0 0 0 0 0 ⟨#[]⟩ 0 0 0 0 0).toArray 37)).alloc (O #[v,H (k:Int)] 167)) w0→Calls Tryz.prog 92 #[.pointer (some ⟨w.heap.size + 1,0,none⟩)] w0 fun e w'=>EvEnd (w.heap.size + 1) v w0 (evA l k) e w':=fun w0 xR =>
  event_any w (w.heap.size + 1) v l k w0 ⟨xN,uq,Nat.le_succ _,xi.trans (xR.mono (by omega)),fF hr xR (by omega),E,by omega,A⟩
 cases hg:evA l k with
 | none =>
  rw [evR_none Q E hg]
  refine gN v l.length a cap hv k 3 w hE fun w0 hw0=>?_
  subst hw0
  rw [hg] at hev
  subst hv
  exact tryE_fail (w.heap.size + 1) a l.length cap k 3 _ hr (by omega) (by omega) (by omega) fun w0 h=>(hev w0 (by rw [hz] at h; exact h)).mono fun e w' h=>⟨h.1,h.2.2 rfl⟩
 | some r =>
  obtain ⟨x,n⟩:=r
  rw [evR_some Q E hg]
  refine readE_fine v l.length a cap hv k x n w fun w0 hw0=>?_
  subst hw0
  rw [hg] at hev
  subst hv
  exact tryE_ok (w.heap.size + 1) a l.length cap k x n _ hr (by omega) (by omega) (by omega) fun w0 h=>(hev w0 (by rw [hz] at h; exact h)).mono fun e w' h=>⟨h.1,(h.2.1 x n rfl).1,(h.2.1 x n rfl).2⟩
theorem implDecode_any (v:Value) (l:List Int) (at_:Int) (w:World) (xN:Rd w v l) (uq:CapOk v) (A:Bts l) (hE:ErrT w) :
  Calls Tryz.prog 47 #[v,H at_] w fun e w'=>e = .returned (tupE (evR l at_).1 (evR l at_).2)∧yn w w':=by
 have hsf:=sfl
 have qv:=gZ w (O (yv 0 0 0 0 0 0 0 0 ⟨#[]⟩ 0 0 0 0 0).toArray 37)
 have HR:=M (readE_any v l at_ _ (rd_below xN qv hU) uq A (zW hE qv hU))
 have HB:=M qv
 have HX:Hid (Bx (w.alloc (O (yv 0 0 0 0 0 0 0 0 ⟨#[]⟩ 0 0 0 0 0).toArray 37)) w.heap.size (yv 0 0 0 0 0 0 0 0 ⟨#[]⟩ 0 0 0 0 0)):=zy w (yv 0 0 0 0 0 0 0 0 ⟨#[]⟩ 0 0 0 0 0) 37
 have HZ:Hid ((w.alloc (O (yv 0 0 0 0 0 0 0 0 ⟨#[]⟩ 0 0 0 0 0).toArray 37)).heap.size = w.heap.size + 1):=by show _ = _; simp
 obtain ⟨a,cap,rfl⟩:=rd_len xN
 clear xN uq A hE qv
 generalize evR l at_ = r at *
 obtain ⟨⟨xn,⟨ck,cs,ct,cl,cq,ci,cp,cg⟩,id,xl,qty,xm,xk⟩,r2,r3⟩:=r
 go_enter Tryz.func47,Tryz.ntmps47
 go_wp2_with fail
 generalize (w.alloc (O (yv 0 0 0 0 0 0 0 0 ⟨#[]⟩ 0 0 0 0 0).toArray 37)) = W0 at HR HB HX HZ ⊢
 refine (U HR).mono ?_
 rintro e W1 ⟨rfl,ub⟩
 have hX:=zl (U HX) ub (by rw [U HZ]; omega)
 have jq:=M hX
 have xU:=M (ia (U HB) ub)
 have z0:=zb hX 0 rfl
 have f0:=zd hX 0 (by decide)
 have z1:=zb hX 1 rfl
 have f1:=zd hX 1 (by decide)
 have z2:=zb hX 2 rfl
 have f2:=zd hX 2 (by decide)
 have z3:=zb hX 3 rfl
 have f3:=zd hX 3 (by decide)
 have z4:=zb hX 4 rfl
 have f4:=zd hX 4 (by decide)
 have z5:=zb hX 5 rfl
 have f5:=zd hX 5 (by decide)
 have z6:=zb hX 6 rfl
 have f6:=zd hX 6 (by decide)
 have z7:=zb hX 7 rfl
 have f7:=zd hX 7 (by decide)
 have z8:=zb hX 8 rfl
 have f8:=zd hX 8 (by decide)
 have z9:=zb hX 9 rfl
 have f9:=zd hX 9 (by decide)
 have pV:=zb hX 10 rfl
 have f10:=zd hX 10 (by decide)
 have pW:=zb hX 11 rfl
 have f11:=zd hX 11 (by decide)
 have pX:=zb hX 12 rfl
 have f12:=zd hX 12 (by decide)
 have pY:=zb hX 13 rfl
 have f13:=zd hX 13 (by decide)
 unfold tupE evV
 simp only
 clear ub hX HR HX HZ
 go_wp2_with fail
 rw [set14]
 have xY:=M (zB (us:=(yv xn ck cs ct cl cq ci cp cg id xl qty xm xk)) (U jq) rfl)
 have HBF:=M (zj w.heap.size hU (yv xn ck cs ct cl cq ci cp cg id xl qty xm xk) 0 W1 (U xU))
 clear z0 f0 z1 f1 z2 f2 z3 f3 z4 f4 z5 f5 z6 f6 z7 f7 z8 f8 z9 f9 pV f10 pW f11 pX f12 pY f13 jq xU
 generalize (W1.setCells w.heap.size 0 (yv xn ck cs ct cl cq ci cp cg id xl qty xm xk)) = WF at xY HBF ⊢
 obtain ⟨d0,d1,d2,d3,d4,d5,d6,d7,d8,d9,pf,pg,ph,pj⟩:=yz (U xY)
 refine bodyPost_ret (v:=tupE ⟨xn,⟨ck,cs,ct,cl,cq,ci,cp,cg⟩,id,xl,qty,xm,xk⟩ (r2,r3)) ?_ rfl ⟨rfl,U HBF⟩
 simp [results,Tryz.f47,go_sem,d0,d1,d2,d3,d4,d5,d6,d7,d8,d9,pf,pg,ph,pj,tupE,evV]
theorem ite_okb (p:Prop) [Decidable p] (b:Bool) (W:World):(if p then Result.ok (Value.bool b) W else Result.ok (Value.bool false) W) = Result.ok (Value.bool (decide p && b)) W:=by
 split <;> simp_all
theorem eqVlE (a b:Ev) (W:World):(binOp .eql 103 (vlV a) (vlV b)).run Tryz.prog W = .ok (.bool (sameE a b)) W:=by
 obtain ⟨ak,⟨a1,a2,a3,a4,a5,a6,a7,a8⟩,a9,a10,a11,a12,a13⟩:=a
 obtain ⟨bk,⟨b1,b2,b3,b4,b5,b6,b7,b8⟩,b9,b10,b11,qi,b13⟩:=b
 unfold vlV
 simp only
 go_simp
 unfold sameE
 simp only
 have h7:((fbit a7:Int) = fbit b7) ↔ fbit a7 = fbit b7:=by omega
 simp only [h7,ite_okb,Bool.and_true]
 rfl
theorem eqGdE (a b:Ev) (W:World):(eqGuard .eql 103 (.tmp 22) (.tmp 24) (vlV a) (vlV b)).run Tryz.prog W = .ok () W:=by
 unfold vlV
 go_simp
theorem implOK_any (e:Ev) (he:e.fit) (w:World) (hE:ErrT w):Calls Tryz.prog 18 #[evV e] w fun r w'=>r = .returned (.bool (okE e))∧yn w w':=by
 have hsf:=sfl
 obtain ⟨xR,vw⟩:=ie w e.vs 37
 have jI:Hid ((w.alloc (Obj.cells e.vs.toArray 37)).heap.size = w.heap.size + 1):=by show _ = _; simp
 have oM:=M (zW hE xR hU)
 have xU:=M xR
 have HAD:=M (fun (E:1 ≤ e.kind∧e.kind ≤ 9) W=>addEvent_any e he E W.heap.size (.slice none 0 0) [] W hU (World.ownsRow_nil _ _ _ _) (by simp))
 have jo:=M (fun (E:1 ≤ e.kind∧e.kind ≤ 9)=>evA_wr e he ((shF_ne e.kind).2 E) [])
 have HLN:=M (evL_len e he)
 have HBT:=M (evL_bts e)
 have HQ:=M (fun (E:1 ≤ e.kind∧e.kind ≤ 9)=>okE_eq e E)
 have kZ:Hid (¬ (1 ≤ e.kind∧e.kind ≤ 9)→okE e = false):=fun h=>by
  unfold okE
  rw [if_pos (by unfold fldK; rw [if_neg (by omega),if_neg (by omega),if_neg (by omega),if_neg (by omega),if_neg (by omega)])]
 have HVA:=M (fun W=>gy e W)
 have HVB:=M (fun W=>gy (bkE e) W)
 have HSM:=M (fun W=>eqVlE (bkE e) e W)
 have qg:=M (fun W=>eqGdE (bkE e) e W)
 have pO:=shF_ne e.kind
 clear he xR
 generalize okE e = ok at *
 generalize bkE e = b at *
 generalize evL e = L at *
 have HVE:Hid (evV e = .agg e.vs.toArray):=rfl
 generalize sameE b e = sm at *
 generalize vlV e = vl at *
 generalize vlV b = vb at *
 obtain ⟨xn,⟨ck,cs,ct,cl,cq,ci,cp,cg⟩,id,xl,qty,xm,xk⟩:=e
 unfold evV at HVA HAD ⊢
 unfold Ev.vs at vw jI oM xU
 simp only at HVA HAD vw jI oM xU pO jo HBT HQ kZ ⊢
 go_enter Tryz.func18,Tryz.ntmps18
 refine ic fun xh xK=>?_
 go_wp2_with fail
 refine U xK _ _ ?_
 clear xK
 generalize (w.alloc (O (yv xn ck cs ct cl cq ci cp cg id xl qty xm xk).toArray 37)) = W1 at vw jI oM xU ⊢
 have x0:=zb (U vw) 0 rfl
 go_wp2_with fail
 refine (shape_any xn W1).mono ?_
 rintro r W2 ⟨fv,fs,rfl,hof,hff,xP⟩
 have vC:=(ffs_get hff).1
 obtain ⟨fa,kQ,rfl,hfl,ur⟩:=hof
 clear hff ur
 have xt:=M xP
 clear xP
 go_wp2_with fail
 refine (isKind_any (shC xn) fa fs.length kQ W2).mono ?_
 rintro r W3 ⟨rfl,xQ⟩
 have xG:=M (ia (U xt) xQ)
 clear xQ
 by_cases E:1 ≤ xn∧xn ≤ 9
 ·have vM:decide (0 < fs.length) = true:=by
   rw [← vC,decide_eq_true_iff]
   exact List.length_pos_iff.2 (pO.2 E)
  rw [vM]
  have jV:=zl (U vw) (U xG) (by rw [U jI]; omega)
  have z0:=zb jV 0 rfl
  have z1:=zb jV 1 rfl
  have z2:=zb jV 2 rfl
  have z3:=zb jV 3 rfl
  have z4:=zb jV 4 rfl
  have z5:=zb jV 5 rfl
  have z6:=zb jV 6 rfl
  have z7:=zb jV 7 rfl
  have z8:=zb jV 8 rfl
  have z9:=zb jV 9 rfl
  have pV:=zb jV 10 rfl
  have pW:=zb jV 11 rfl
  have pX:=zb jV 12 rfl
  have pY:=zb jV 13 rfl
  have vI:=M jV
  have HW3:=M ((U xU).trans ((U xG).mono (U xU).size))
  have pB:=M (zW (U oM) (U xG) hU)
  have HAD3:=M (U HAD E W3)
  have hz3:w.heap.size < W3.heap.size:=by have:=(U xG).size; rw [U jI] at this; omega
  clear jV vM xt xG vw oM xU vC hfl x0
  go_wp2_with fail
  refine (U HAD3).mono ?_
  rintro r W4 ⟨v4,rfl,hr4,jt,hq4⟩
  rw [List.nil_append] at hr4
  have hln:=U HLN
  have hot:=bRow_own hr4 hln.1 (by omega)
  have xy:yn W3 W4:=⟨jt.os,jt.tape,jt.output,jt.size,fun i hi=>jt.block i hi (by simp [Value.ownBlock])⟩
  have HDC:=M (implDecode_any v4 L 0 W4 (own_rd hot.own) (capOk_own hot) (U HBT E) (zW (U pB) xy hU))
  have oQ:evR L 0 = (b,((L.length:Nat):Int),0):=evR_some (k:=0) (by omega) (by omega) (by have:=U jo E; rwa [List.append_nil] at this)
  rw [oQ] at HDC
  have xE:=M (zl (U vI) xy hz3)
  have kz:=M (ia (U HW3) xy)
  have hz4:w.heap.size < W4.heap.size:=yK hz3 xy.size
  clear hr4 jt hq4 hot xy oQ pB HAD3 vI HW3 hz3 z0 z1 z2 z3 z4 z5 z6 z7 z8 z9 pV pW pX pY
  go_wp2_with fail
  refine (U HDC).mono ?_
  rintro r W5 ⟨rfl,uj⟩
  unfold tupE
  have hX5:=zl (U xE) uj hz4
  have HW5:=M (ia (U kz) uj)
  have hz5:w.heap.size < W5.heap.size:=yK hz4 uj.size
  obtain ⟨kr,⟨ck',cs',ct',cl',cq',ci',cp',cg'⟩,id',qS,bj,qT,qf⟩:=b
  unfold evV at HVB ⊢
  simp only at HVB ⊢
  have jW:=gZ W5 (O (yv kr ck' cs' ct' cl' cq' ci' cp' cg' id' qS bj qT qf).toArray 37)
  have kA:Hid (Bx (W5.alloc (O (yv kr ck' cs' ct' cl' cq' ci' cp' cg' id' qS bj qT qf).toArray 37)) W5.heap.size (yv kr ck' cs' ct' cl' cq' ci' cp' cg' id' qS bj qT qf)):=zy W5 (yv kr ck' cs' ct' cl' cq' ci' cp' cg' id' qS bj qT qf) 37
  have uT:=M (zl hX5 jW hz5)
  have HW6:=M (ia (U HW5) jW)
  have HZ6:Hid ((W5.alloc (O (yv kr ck' cs' ct' cl' cq' ci' cp' cg' id' qS bj qT qf).toArray 37)).heap.size = W5.heap.size + 1):=by show _ = _; simp
  clear uj jW hX5 xE kz HW5 hz4 HDC
  go_wp2_with fail
  generalize (W5.alloc (O (yv kr ck' cs' ct' cl' cq' ci' cp' cg' id' qS bj qT qf).toArray 37)) = W6 at kA uT HW6 HZ6 ⊢
  have HCB:Hid (Calls Tryz.prog 49 #[.agg (yv kr ck' cs' ct' cl' cq' ci' cp' cg' id' qS bj qT qf).toArray] W6.drew fun r W7=>r = .returned vb∧Bx W7 w.heap.size (yv xn ck cs ct cl cq ci cp cg id xl qty xm xk)∧yn w W7):=by
   refine (U HVB W6.drew).mono ?_
   rintro r W7 ⟨rfl,vQ⟩
   exact ⟨rfl,zl (cf (U uT)) vQ (by show w.heap.size < W6.heap.size; rw [U HZ6]; omega),(U HW6).drew.trans (vQ.mono (U HW6).drew.size)⟩
  obtain ⟨x0,x1,x2,x3,x4,x5,x6,x7,x8,x9,x10,x11,x12,x13⟩:=yz (U uT)
  obtain ⟨y0,y1,y2,y3,y4,y5,y6,y7,y8,y9,y10,y11,y12,y13⟩:=yz (U kA)
  have hsm:=fun W=>U HSM W
  have hgd:=fun W=>U qg W
  have HQQ:=M (U HQ E)
  clear kA uT HVB
  go_region_with (go_at_call 49; first | (with_reducible refine (U HCB).mono ?_; rintro r W7 ⟨rfl,aQ,hW7⟩; have HW7:=M hW7; have g0:=zb aQ 0 rfl; have g1:=zb aQ 1 rfl; have g2:=zb aQ 2 rfl; have g3:=zb aQ 3 rfl; have g4:=zb aQ 4 rfl; have g5:=zb aQ 5 rfl; have g6:=zb aQ 6 rfl; have g7:=zb aQ 7 rfl; have g8:=zb aQ 8 rfl; have g9:=zb aQ 9 rfl; have qL:=zb aQ 10 rfl; have ql:=zb aQ 11 rfl; have ud:=zb aQ 12 rfl; have kB:=zb aQ 13 rfl; clear aQ hW7) | (refine (U HVA _).mono ?_; rintro r W8 ⟨rfl,hb8⟩; have HW8:=M (ia (U HW7) hb8); clear hb8))
  all_goals try go_wp2_with fail
  all_goals
   refine bodyPost_ret (v:=.bool sm) ?_ rfl ⟨by rw [U HQQ],U HW8⟩
   simp [results,Tryz.f18,go_sem]
 ·have vM:decide (0 < fs.length) = false:=by
   rw [← vC,decide_eq_false_iff_not]
   intro h
   exact E (pO.1 (List.length_pos_iff.1 h))
  rw [vM]
  go_wp2_with fail
  go_ret
  exact ⟨by rw [U kZ E]; rfl,(U xU).trans ((U xG).mono (U xU).size)⟩
end Go.Proofs.YthhkapcbocgcoaaGreatDoor
