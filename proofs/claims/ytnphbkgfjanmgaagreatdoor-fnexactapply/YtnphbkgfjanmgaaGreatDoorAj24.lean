/-
  The rules of a group on its way, as the model holds an event against them, are the program's. No function walked.
-/
import Derived.Test.YtnphbkgfjanmgaaGreatDoorAj23
set_option linter.unusedVariables false
set_option maxHeartbeats 6400000
set_option maxRecDepth 100000
namespace Go.Proofs.YtnphbkgfjanmgaaGreatDoor
open Go.RowKit
structure MR (g:Gr) (t:Od) (kd:Int) (dy:List Od):Prop where
 left:t.left = g.tk.left
 same:g.tk.left ≠ 0→t = g.tk
 side:t.side = 0 ∨ t.side = 1 ∨ t.side = 2
 kd:g.bg = 1→kd = g.cm.t
 dy:dy = if g.bg = 8 then g.l.filter isDy else []
def lftM (kd:Int) (t:Od):Du:=⟨if bG kd = true then 4 else 5,t.id,0,t.left,0⟩
def dueM (l:List Od) (t:Od) (kd:Int) (dy:List Od):Du :=
 if t.left ≠ 0 then (match bB l (othS t.side) with
  | some o=>if cG t.side t.ticks o = true then ⟨3,t.id,o.id,min t.left o.left,o.ticks⟩ else lftM kd t
  | none=>lftM kd t)
 else match dy with
  | o :: _=>⟨9,o.id,0,o.left,0⟩
  | []=>zDu
theorem lft_eq (c:Cm) (t:Od):lftM c.t t = lftD c t:=by
 unfold lftM lftD
 split <;> rfl
theorem filter_find {l:List Od}:(match l.filter isDy with | o :: _=>(⟨9,o.id,0,o.left,0⟩:Du) | []=>zDu) = dayD l:=by
 unfold dayD
 rw [← List.head?_filter]
 cases l.filter isDy <;> rfl
theorem dueM_eq {g:Gr} {t:Od} {kd:Int} {dy:List Od} (h:GI g) (hm:MR g t kd dy):dueM g.l t kd dy = dueG g:=by
 unfold dueM dueG
 by_cases N:g.bg = 1
 ·rw [if_pos N]
  obtain ⟨a1,a2,a3⟩:=h.acc N
  unfold takD
  by_cases h0:g.tk.left = 0
  ·rw [if_pos h0,if_neg (by rw [hm.left]; simpa using h0),hm.dy,if_neg (by omega)]
  ·obtain ⟨b1,b2,_⟩:=a3 h0
   rw [if_neg h0,if_pos (by rw [hm.left]; exact h0),hm.same h0,hm.kd N,lft_eq,b1,b2]
   cases bB g.l (othS g.cm.s) with
   | none=>rfl
   | some o=>simp only [cross_meet a2]
 ·rw [if_neg N]
  have h0:=h.free N
  rw [if_neg (by rw [hm.left]; simpa using h0),hm.dy]
  by_cases h8:g.bg = 8
  ·rw [if_pos h8,if_pos h8]
   exact filter_find
  ·rw [if_neg h8,if_neg h8]
def zQ (k:Int):Bool:=(k == 1) || ((k == 2) || ((k == 6) || ((k == 7) || (k == 8))))
def fstM (nx:Int) (l:List Od) (e:Ev):Int :=
 if zQ e.kind = false then 3
 else if e.kind = 2 then (if refR nx l (bA e) = 0 ∨ refR nx l (bA e) ≠ e.reason then 4 else 0)
 else if refR nx l (bA e) ≠ 0 then 5
 else if e.kind = 1 then (if e.id ≠ nx then 6 else 0)
 else if e.kind = 6 then (if e.qty ≠ leftAt l e.id then 7 else 0)
 else if e.kind = 8 then (if e.qty ≠ ((dys l).length:Int) then 7 else 0)
 else 0
def latM (d:Du) (e:Ev):Int :=
 if zQ e.kind = true then 3
 else if d.kind = 0 then 8
 else if d.kind = 9 ∨ e.kind = 9 then (if bC e d = true then 0 else 14)
 else if d.kind ≠ 3 then (if e.kind = 3 then 9 else if bC e d = true then 0 else 13)
 else if e.kind ≠ 3 then 13
 else if e.id ≠ d.id then 9
 else if e.other ≠ d.other then 10
 else if e.price ≠ d.price then 11
 else if e.qty ≠ d.qty then 12
 else 0
def ruleM (g:Gr) (e:Ev):Int:=if g.bg = 0 then fstM g.nx g.l e else latM (dueG g) e
theorem dysF_len:∀ (l:List Od) (k:Nat),(dysF l k).length = (l.filter isDy).length
 | [],_=>rfl
 | o :: r,k=>by
  rw [dysF,List.filter_cons]
  by_cases h:o.life = 1
  ·rw [if_pos h,if_pos (by simpa [isDy] using h),List.length_cons,List.length_cons,dysF_len r (k + 1)]
  ·rw [if_neg h,if_neg (by simpa [isDy] using h),dysF_len r (k + 1)]
theorem ruleM_eq {g:Gr} {e:Ev} (hk:1 ≤ e.kind∧e.kind ≤ 9):ruleM g e = zG g e:=by
 have hd:((dys g.l).length:Int) = ((g.l.filter isDy).length:Int):=by rw [dys,dysF_len]
 unfold ruleM
 by_cases h0:g.bg = 0
 ·rw [if_pos h0]
  unfold fstM zG bz dueR
  rw [hd]
  rcases (show e.kind = 1 ∨ e.kind = 2 ∨ e.kind = 3 ∨ e.kind = 4 ∨ e.kind = 5 ∨ e.kind = 6 ∨ e.kind = 7 ∨ e.kind = 8 ∨ e.kind = 9 by omega) with k | k | k | k | k | k | k | k | k
  ·simp [k,zQ,h0]
   split <;> simp_all
  ·simp [k,zQ,h0,bA]
   split <;> split <;> simp_all
  ·simp [k,zQ,h0]
  ·simp [k,zQ,h0]
  ·simp [k,zQ,h0]
  ·simp [k,zQ,h0]
   split <;> simp_all
  ·simp [k,zQ,h0]
  ·simp [k,zQ,h0]
   split <;> simp_all
  ·simp [k,zQ,h0]
 ·rw [if_neg h0]
  unfold latM zG bz dueR trR
  rcases (show e.kind = 1 ∨ e.kind = 2 ∨ e.kind = 3 ∨ e.kind = 4 ∨ e.kind = 5 ∨ e.kind = 6 ∨ e.kind = 7 ∨ e.kind = 8 ∨ e.kind = 9 by omega) with k | k | k | k | k | k | k | k | k
  ·simp [k,zQ,h0]
  ·simp [k,zQ,h0]
  ·simp only [k,zQ,h0]
   generalize dueG g = d
   have hn:d.kind = 9→bC e d = false:=fun h=>by unfold bC; rw [k,h]; rfl
   cases X:bC e d <;> by_cases d0:d.kind = 0 <;> by_cases d9:d.kind = 9 <;> by_cases d3:d.kind = 3 <;> simp [d0,d9,d3] <;> grind
  ·simp only [k,zQ,h0]
   generalize hdd:dueG g = d
   have hn:d.kind = 3→bC e d = false:=fun h=>by unfold bC; rw [k,h]; rfl
   cases X:bC e d <;> by_cases d0:d.kind = 0 <;> by_cases d9:d.kind = 9 <;> by_cases d3:d.kind = 3 <;> simp [d0,d9,d3] <;> grind
  ·simp only [k,zQ,h0]
   generalize hdd:dueG g = d
   have hn:d.kind = 3→bC e d = false:=fun h=>by unfold bC; rw [k,h]; rfl
   cases X:bC e d <;> by_cases d0:d.kind = 0 <;> by_cases d9:d.kind = 9 <;> by_cases d3:d.kind = 3 <;> simp [d0,d9,d3] <;> grind
  ·simp [k,zQ,h0]
  ·simp [k,zQ,h0]
  ·simp [k,zQ,h0]
  ·simp only [k,zQ,h0]
   generalize dueG g = d
   cases X:bC e d <;> by_cases d0:d.kind = 0 <;> simp [d0] <;> grind
theorem filter_gone {l:List Od} {k:Nat} {o:Od} {r:List Od} (hk:l[k]? = some o) (hr:bT l) (hf:l.filter isDy = o :: r):(l.take k ++ l.drop (k + 1)).filter isDy = r:=by
 have hl:l = l.take k ++ o :: l.drop (k + 1):=by
  obtain ⟨N,rfl⟩:=yH.1 hk
  rw [← xd N,List.take_append_drop]
 have Z:isDy o = true:=by
  have:o ∈ l.filter isDy:=by rw [hf]; exact List.mem_cons_self
  exact (List.mem_filter.1 this).2
 have N:(l.take k).filter isDy ++ o :: (l.drop (k + 1)).filter isDy = o :: r:=by
  rw [← hf]
  conv=>rhs; rw [hl]
  rw [List.filter_append,List.filter_cons,if_pos Z]
 rw [List.filter_append]
 cases hc:(l.take k).filter isDy with
 | nil=>rw [hc] at N; simpa using N
 | cons a b =>
  exfalso
  rw [hc] at N
  simp only [List.cons_append,List.cons.injEq] at N
  have ha:a ∈ l.take k:=(List.mem_filter.1 (by rw [hc]; exact List.mem_cons_self)).1
  rw [N.1] at ha
  obtain ⟨j,X⟩:=List.getElem?_of_mem ha
  have hjk:j < k:=by
   have:=(yH.1 X).1
   simp at this; omega
  rw [List.getElem?_take] at X
  rw [if_pos hjk] at X
  have:=rise_id hr X hk rfl
  omega
def tkM (g:Gr) (t:Od) (e:Ev):Od :=
 if e.kind = 1 then ⟨g.nx,e.cmd.s,tkS e.cmd.p,e.cmd.q,e.cmd.l,e.cmd.g⟩ else if e.kind = 3 then { t with left:=t.left - e.qty } else if e.kind = 4 ∨ e.kind = 5 then zOd else t
def kdM (kd:Int) (e:Ev):Int:=if e.kind = 1 then e.cmd.t else kd
def dyM (g:Gr) (dy:List Od) (e:Ev):List Od:=if e.kind = 8 then g.l.filter isDy else if e.kind = 9 then dy.tail else dy
theorem mr_start (next:Int) (l:List Od):MR (gr0 next l) zOd 0 [] :=
 ⟨rfl,fun h=>absurd rfl h,.inl rfl,fun h=>absurd (show (0:Int) = 1 from h) (by decide),rfl⟩
theorem mr_step {g:Gr} {t:Od} {kd:Int} {dy:List Od} {e:Ev} (h:GI g) (hm:MR g t kd dy) (he:okE e = true) (hr:zG g e = 0):MR (br g e) (tkM g t e) (kdM kd e) (dyM g dy e):=by
 have hk:=ei he
 obtain ⟨nx,l,bg,cm,tk⟩:=g
 have aB:=hm.left
 have hm2:=hm.same
 have hm3:=hm.side
 have hm4:=hm.kd
 have hm5:=hm.dy
 simp only at aB hm2 hm4 hm5
 rcases (show e.kind = 1 ∨ e.kind = 2 ∨ e.kind = 3 ∨ e.kind = 4 ∨ e.kind = 5 ∨ e.kind = 6 ∨ e.kind = 7 ∨ e.kind = 8 ∨ e.kind = 9 by omega) with k | k | k | k | k | k | k | k | k
 ·obtain ⟨N,Y,h3⟩:=rule1 k hr
  simp only at N Y h3
  subst N
  obtain ⟨a1,a2,a3,a4⟩:=new_ok (ref_newG (okE_new he k).1 Y)
  rw [step1 k]
  simp only [tkM,kdM,dyM,begG,k]
  refine ⟨rfl,fun _=>?_,.inr (side_of a1),fun _=>rfl,?_⟩
  ·show (⟨nx,e.cmd.s,tkS e.cmd.p,e.cmd.q,e.cmd.l,e.cmd.g⟩:Od) = ordO e.cmd e.id
   rw [ordO,h3,tk_tkS a2]
  ·rw [hm5]; rfl
 ·have N:=rule2 k hr
  simp only at N
  subst N
  rw [step2 k]
  simp only [tkM,kdM,dyM,begG,k]
  exact ⟨aB,hm2,hm3,fun h9=>absurd h9 (by first | (simp; done) | simp [k]),by rw [hm5]; rfl⟩
 ·obtain ⟨N,Y,o,h3,h4,h5,h6,h7,h8⟩:=rule3 k hr
  simp only at N Y h3 h4 h5 h7
  subst N
  have hs:=hm2 Y
  subst hs
  rw [step3 k]
  simp only [tkM,kdM,dyM,begG,k]
  exact ⟨rfl,fun _=>rfl,hm3,fun _=>hm4 rfl,by rw [hm5]; rfl⟩
 ·obtain ⟨N,Y⟩:=rule45 (.inl k) hr
  simp only at N Y
  subst N
  rw [step4 k]
  simp only [tkM,kdM,dyM,begG,k]
  exact ⟨rfl,fun h9=>absurd rfl h9,.inl rfl,fun _=>hm4 rfl,by rw [hm5]; rfl⟩
 ·obtain ⟨N,Y⟩:=rule45 (.inr k) hr
  simp only at N Y
  subst N
  rw [step5 k]
  simp only [tkM,kdM,dyM,begG,k]
  exact ⟨rfl,fun h9=>absurd rfl h9,.inl rfl,fun _=>hm4 rfl,by rw [hm5]; rfl⟩
 ·obtain ⟨N,_⟩:=rule6 k hr
  simp only at N
  subst N
  rw [step6 k]
  simp only [tkM,kdM,dyM,begG,k]
  exact ⟨aB,hm2,hm3,fun h9=>absurd h9 (by first | (simp; done) | simp [k]),by rw [hm5]; rfl⟩
 ·obtain ⟨N,_⟩:=rule7 k hr
  simp only at N
  subst N
  rw [step7 k]
  simp only [tkM,kdM,dyM,begG,k]
  exact ⟨aB,hm2,hm3,fun h9=>absurd h9 (by first | (simp; done) | simp [k]),by rw [hm5]; rfl⟩
 ·have N:=rule8 k hr
  simp only at N
  subst N
  rw [step8 k]
  simp only [tkM,kdM,dyM,begG,k]
  exact ⟨aB,hm2,hm3,fun h9=>absurd h9 (by first | (simp; done) | simp [k]),rfl⟩
 ·obtain ⟨N,o,Y,h3,h4,h5⟩:=rule9 k hr
  simp only at N Y
  subst N
  have hg:=h.good (.inl (by first | (simp; done) | simp [k]))
  obtain ⟨i,hi⟩:=find_at Y
  have hp:=dc hg.rise hi
  rw [if_pos rfl] at hm5
  rw [← List.head?_filter] at Y
  obtain ⟨r,bi⟩:∃ r,l.filter isDy = o :: r:=by
   cases hc:l.filter isDy with
   | nil=>rw [hc] at Y; simp at Y
   | cons a b=>rw [hc] at Y; simp at Y; subst Y; exact ⟨b,rfl⟩
  rw [step9 k]
  simp only [tkM,kdM,dyM,begG,h3,dx hp hi,k]
  refine ⟨aB,hm2,hm3,fun h9=>absurd h9 (by first | (simp; done) | simp [k]),?_⟩
  rw [hm5,bi]
  show r = List.filter isDy (bu l i o o.left)
  rw [bu,if_pos rfl,filter_gone hi hg.rise bi]
theorem tryE_box (w:World):Bx ((w.alloc (A (yw 0 0 0 0 0 0 0 0 ⟨#[]⟩ 0 0 0 0 0).toArray 52)).alloc (A #[.nilIface] 184)) w.heap.size (yw 0 0 0 0 0 0 0 0 ⟨#[]⟩ 0 0 0 0 0) :=
 zf (zq w (yw 0 0 0 0 0 0 0 0 ⟨#[]⟩ 0 0 0 0 0) 52) ((Below.refl (w.heap.size + 1) _).alloc (by simp) _) (by omega)
theorem tryE_err (w:World):Bx ((w.alloc (A (yw 0 0 0 0 0 0 0 0 ⟨#[]⟩ 0 0 0 0 0).toArray 52)).alloc (A #[.nilIface] 184)) (w.heap.size + 1) [.nilIface]:=by
 have h:=zq (w.alloc (A (yw 0 0 0 0 0 0 0 0 ⟨#[]⟩ 0 0 0 0 0).toArray 52)) [.nilIface] 184
 rwa [show (w.alloc (A (yw 0 0 0 0 0 0 0 0 ⟨#[]⟩ 0 0 0 0 0).toArray 52)).heap.size = w.heap.size + 1 by simp] at h
theorem gr_set1 {w W:World} {zb b j:Nat} {u:Value} (h:w.grownBy W (some zb)) (Q:w.heap.size ≤ b):w.grownBy (W.setCell ⟨b,j,none⟩ u) (some zb) :=
 ⟨h.os,h.tape,h.output,by have:=h.size; simpa [World.setCell] using this,fun i hi K=>by rw [yT _ _ _ _ (by show i ≠ b; omega)]; exact h.block i hi K⟩
theorem gg (p:Addr) (x:Value) (c k:Int) (older:List PanicEntry) (w:World) (hc:w.cell? p = some x) (hz:w.frozen? p = false) :
  CallsD Tryz.prog 192 #[.pointer (some p)] (.panicking ({ v:=bZ c k,recovered:=false } :: older)) w fun e u' w' =>
   e = .returned (.tuple #[])∧u' = .panicking ({ v:=bZ c k,recovered:=true } :: older)∧w' = w.setCell p (bZ c k):=by
 refine callsD_of_wpS Tryz.func192 rfl fun c₀ L hu=>?_
 simp only [bZ] at hu ⊢
 apply wpS_seq
 apply wpS_region
 simp [wpOpsS,go_sem,recoverD,hu,Tryz.ntmps192,Exit.thenS,ta_fault]
 apply wpS_seq
 apply wpS_region
 simp [wpOpsS,go_sem,Exit.thenS]
 refine wpS_cond (t:=true) (by simp [Act.eval,Array.replicate]) ?_
 simp only [if_true]
 apply wpS_region
 simp [wpOpsS,go_sem,hc,hz,bodyPostS,results,Tryz.results192]
theorem catch_idleE (p:Addr) (w:World) :
  CallsD Tryz.prog 192 #[.pointer (some p)] .returning w fun e u' w'=>e = .returned (.tuple #[])∧u' = .returning∧w' = w:=by
 refine callsD_of_wpS Tryz.func192 rfl fun c₀ L hu=>?_
 apply wpS_seq
 apply wpS_region
 simp [wpOpsS,go_sem,recoverD,hu,Tryz.ntmps192,Exit.thenS,ta_nil]
 apply wpS_seq
 apply wpS_region
 simp [wpOpsS,go_sem,Exit.thenS]
 refine wpS_cond (t:=false) (by simp [Act.eval,Array.replicate]) ?_
 simp only [Bool.false_eq_true,if_false]
 refine wpS_of_wp (wp_skip ?_)
 cases c₀
 simp_all [bodyPostS,results,Tryz.results192]
theorem tryE_ok (B:Nat) (a:Option Addr) (len cap:Nat) (k:Int) (x:Ev) (next:Int) (w:World) (hr:Rdr B w (.slice a len cap) k) (h0:0 ≤ k) (N:k ≤ len) (hl:len ≤ 65536)
  (py:∀ w0,Below w.heap.size w w0→Calls Tryz.prog 122 #[.pointer (some ⟨B,0,none⟩)] w0 fun e w'=>w0.grownBy w' (some B)∧e = .returned (evV x)∧Rdr B w' (.slice a len cap) next) :
  Calls Tryz.prog 161 #[.pointer (some ⟨B,0,none⟩),.func (.func 122) #[] #[]] w fun e w'=>e = .returned (.tuple #[evV x,.nilIface])∧Rdr B w' (.slice a len cap) next∧w.grownBy w' (some B):=by
 have hsf:=sfl
 have hmf:∀ (fn:Fn) (first cap:Array Value) (w:World),(Instr.makeFunc fn first cap).run Tryz.prog w = .ok (.func fn first cap) w:=fun _ _ _ _=>rfl
 have qe:=yL w _ hr.1
 have xC:Below w.heap.size w ((w.alloc (A (yw 0 0 0 0 0 0 0 0 ⟨#[]⟩ 0 0 0 0 0).toArray 52)).alloc (A #[.nilIface] 184)):=((Below.refl _ w).alloc yb _).alloc (by simp) _
 have HR:=H (eC hr xC qe)
 have HX:Hid (Bx ((w.alloc (A (yw 0 0 0 0 0 0 0 0 ⟨#[]⟩ 0 0 0 0 0).toArray 52)).alloc (A #[.nilIface] 184)) w.heap.size (yw 0 0 0 0 0 0 0 0 ⟨#[]⟩ 0 0 0 0 0)):=tryE_box w
 have HY:Hid (Bx ((w.alloc (A (yw 0 0 0 0 0 0 0 0 ⟨#[]⟩ 0 0 0 0 0).toArray 52)).alloc (A #[.nilIface] 184)) (w.heap.size + 1) [.nilIface]):=tryE_err w
 have HZ:Hid (((w.alloc (A (yw 0 0 0 0 0 0 0 0 ⟨#[]⟩ 0 0 0 0 0).toArray 52)).alloc (A #[.nilIface] 184)).heap.size = w.heap.size + 2):=by show _ = _; simp
 have HB:=H xC
 have HRd:=H py
 clear hr py xC
 obtain ⟨xn,⟨ck,L,ct,V,cq,ci,O,cg⟩,id,xj,qty,xk,xi⟩:=x
 go_enter_defers Tryz.func161,Tryz.ntmps161
 go_wp2_with fail
 generalize ((w.alloc (A (yw 0 0 0 0 0 0 0 0 ⟨#[]⟩ 0 0 0 0 0).toArray 52)).alloc (A #[.nilIface] 184)) = W1 at HR HX HY HZ HB ⊢
 refine (check_ok B k a len cap _ (U HR) h0 N hl).mono ?_
 rintro e w1 ⟨rfl,q,rfl⟩
 go_wp2_with fail
 refine (U HRd _ (zX (U HB) q)).mono ?_
 rintro e w2 ⟨hg,rfl,bi⟩
 have hz:=U HZ
 have hX:Bx w2 w.heap.size (yw 0 0 0 0 0 0 0 0 ⟨#[]⟩ 0 0 0 0 0):=bx (dO (U HX) q) (hg.block w.heap.size (by show w.heap.size < W1.heap.size; omega) (by simp; omega))
 have hY:Bx w2 (w.heap.size + 1) [.nilIface]:=bx (dO (U HY) q) (hg.block (w.heap.size + 1) (by show w.heap.size + 1 < W1.heap.size; omega) (by simp; omega))
 have HG:Hid (w.grownBy w2 (some B)):=zZ (bel_gr (U HB) B) (zZ (cN W1 q _) hg)
 have kl:=H bi
 have qN:=H hX
 have HYY:=H hY
 have z0:=R hX 0 rfl
 have f0:=zd hX 0 (by decide)
 have z1:=R hX 1 rfl
 have f1:=zd hX 1 (by decide)
 have z2:=R hX 2 rfl
 have f2:=zd hX 2 (by decide)
 have z3:=R hX 3 rfl
 have f3:=zd hX 3 (by decide)
 have z4:=R hX 4 rfl
 have f4:=zd hX 4 (by decide)
 have z5:=R hX 5 rfl
 have f5:=zd hX 5 (by decide)
 have z6:=R hX 6 rfl
 have f6:=zd hX 6 (by decide)
 have z7:=R hX 7 rfl
 have f7:=zd hX 7 (by decide)
 have z8:=R hX 8 rfl
 have f8:=zd hX 8 (by decide)
 have z9:=R hX 9 rfl
 have f9:=zd hX 9 (by decide)
 have oq:=R hX 10 rfl
 have f10:=zd hX 10 (by decide)
 have oM:=R hX 11 rfl
 have f11:=zd hX 11 (by decide)
 have oN:=R hX 12 rfl
 have f12:=zd hX 12 (by decide)
 have oO:=R hX 13 rfl
 have f13:=zd hX 13 (by decide)
 have ze:=R hY 0 rfl
 have fe:=zd hY 0 (by decide)
 unfold evV
 simp only
 clear hg bi hX hY hz HX HY HR HB HZ HRd
 go_wp2_with fail
 rw [set14]
 have HXF0:=zu (us:=(yw xn ck L ct V cq ci O cg id xj qty xk xi)) (U qN) rfl
 have xT:=H (zR (j:=0) (u:=.nilIface) HXF0 (show w.heap.size ≠ w.heap.size + 1 by omega))
 have HYF:=H (bH (j:=0) (u:=.nilIface) (bx_others (us:=(yw xn ck L ct V cq ci O cg id xj qty xk xi)) (U HYY) (show w.heap.size + 1 ≠ w.heap.size by omega)) (by decide))
 have kY:=H (zZ (gr_setCells (yw xn ck L ct V cq ci O cg id xj qty xk xi) (U HG) (Nat.le_refl w.heap.size)) (yS _ _))
 have HRF0:=rdr_setCells (yw xn ck L ct V cq ci O cg id xj qty xk xi) (U kl) (show B ≠ w.heap.size by omega)
 have HRF:=H (rdr_grown HRF0 (gr_set _ ⟨w.heap.size + 1,0,none⟩ .nilIface) (by show B ≠ w.heap.size + 1; omega))
 have kY:=H (gr_set1 (j:=0) (u:=.nilIface) (U kY) (show w.heap.size ≤ w.heap.size + 1 by omega))
 clear z0 f0 z1 f1 z2 f2 z3 f3 z4 f4 z5 f5 z6 f6 z7 f7 z8 f8 z9 f9 oq f10 oM f11 oN f12 oO f13 ze fe HXF0 HRF0 qN HYY HG kl
 generalize (w2.setCells w.heap.size 0 (yw xn ck L ct V cq ci O cg id xj qty xk xi)).setCell ⟨w.heap.size + 1,0,none⟩ .nilIface = WF at xT HYF kY HRF ⊢
 refine leaves_cons (f:=192) (args:=#[.pointer (some ⟨w.heap.size + 1,0,none⟩)]) (by simp) (by simp [go_sem]) ?_
 refine (catch_idleE ⟨w.heap.size + 1,0,none⟩ _).mono ?_
 rintro e u' w'' ⟨rfl,rfl,hw⟩
 subst hw
 obtain ⟨d0,d1,d2,d3,d4,d5,d6,d7,d8,d9,kN,ox,oy,oz⟩:=yz (U xT)
 have de:=R (U HYF) 0 rfl
 simp [Leaves,settle,results,Tryz.results161,go_sem,d0,d1,d2,d3,d4,d5,d6,d7,d8,d9,kN,ox,oy,oz,de]
 exact ⟨rfl,U HRF,U kY⟩
def zEv:Ev:=⟨0,⟨0,0,0,0,0,0,0,⟨#[]⟩⟩,0,0,0,0,0⟩
theorem tryE_fail (B:Nat) (a:Option Addr) (len cap:Nat) (k c:Int) (w:World) (hr:Rdr B w (.slice a len cap) k) (h0:0 ≤ k) (N:k ≤ len) (hl:len ≤ 65536)
  (py:∀ w0,Below w.heap.size w w0→Calls Tryz.prog 122 #[.pointer (some ⟨B,0,none⟩)] w0 fun e w'=>w0.grownBy w' (some B)∧∃ p,e = .panicked (cC c p)) :
  Calls Tryz.prog 161 #[.pointer (some ⟨B,0,none⟩),.func (.func 122) #[] #[]] w fun e w'=>(∃ p,e = .returned (.tuple #[evV zEv,bZ c p]))∧w.grownBy w' (some B):=by
 have hsf:=sfl
 have hmf:∀ (fn:Fn) (first cap:Array Value) (w:World),(Instr.makeFunc fn first cap).run Tryz.prog w = .ok (.func fn first cap) w:=fun _ _ _ _=>rfl
 have qe:=yL w _ hr.1
 have xC:Below w.heap.size w ((w.alloc (A (yw 0 0 0 0 0 0 0 0 ⟨#[]⟩ 0 0 0 0 0).toArray 52)).alloc (A #[.nilIface] 184)):=((Below.refl _ w).alloc yb _).alloc (by simp) _
 have HR:=H (eC hr xC qe)
 have HX:Hid (Bx ((w.alloc (A (yw 0 0 0 0 0 0 0 0 ⟨#[]⟩ 0 0 0 0 0).toArray 52)).alloc (A #[.nilIface] 184)) w.heap.size (yw 0 0 0 0 0 0 0 0 ⟨#[]⟩ 0 0 0 0 0)):=tryE_box w
 have HY:Hid (Bx ((w.alloc (A (yw 0 0 0 0 0 0 0 0 ⟨#[]⟩ 0 0 0 0 0).toArray 52)).alloc (A #[.nilIface] 184)) (w.heap.size + 1) [.nilIface]):=tryE_err w
 have HZ:Hid (((w.alloc (A (yw 0 0 0 0 0 0 0 0 ⟨#[]⟩ 0 0 0 0 0).toArray 52)).alloc (A #[.nilIface] 184)).heap.size = w.heap.size + 2):=by show _ = _; simp
 have HB:=H xC
 have HRd:=H py
 clear hr py xC
 unfold evV zEv
 simp only
 go_enter_defers Tryz.func161,Tryz.ntmps161
 go_wp2_with fail
 generalize ((w.alloc (A (yw 0 0 0 0 0 0 0 0 ⟨#[]⟩ 0 0 0 0 0).toArray 52)).alloc (A #[.nilIface] 184)) = W1 at HR HX HY HZ HB ⊢
 refine (check_ok B k a len cap _ (U HR) h0 N hl).mono ?_
 rintro e w1 ⟨rfl,q,rfl⟩
 go_wp2_with fail
 refine (U HRd _ (zX (U HB) q)).mono ?_
 rintro e w2 ⟨hg,p,rfl⟩
 have hz:=U HZ
 have hX:Bx w2 w.heap.size (yw 0 0 0 0 0 0 0 0 ⟨#[]⟩ 0 0 0 0 0):=bx (dO (U HX) q) (hg.block w.heap.size (by show w.heap.size < W1.heap.size; omega) (by simp; omega))
 have hY:Bx w2 (w.heap.size + 1) [.nilIface]:=bx (dO (U HY) q) (hg.block (w.heap.size + 1) (by show w.heap.size + 1 < W1.heap.size; omega) (by simp; omega))
 have HG:Hid (w.grownBy w2 (some B)):=zZ (bel_gr (U HB) B) (zZ (cN W1 q _) hg)
 clear hg
 have xT:=zR (j:=0) (u:=bZ c p) hX (show w.heap.size ≠ w.heap.size + 1 by omega)
 have HYF:=bH (j:=0) (u:=bZ c p) hY (by decide)
 have kY:=H (gr_set1 (j:=0) (u:=bZ c p) (U HG) (show w.heap.size ≤ w.heap.size + 1 by omega))
 have hcE:=R hY 0 rfl
 have hfE:=zd hY 0 (by decide)
 clear HX HY HR HB HZ hz
 go_wp2_with fail
 refine leaves_cons (f:=192) (args:=#[.pointer (some ⟨w.heap.size + 1,0,none⟩)]) (by simp) (by simp [go_sem]) ?_
 refine (gg ⟨w.heap.size + 1,0,none⟩ .nilIface c p [] _ hcE hfE).mono ?_
 rintro e u' w'' ⟨rfl,rfl,hw⟩
 rw [hw]
 clear hw
 generalize w2.setCell ⟨w.heap.size + 1,0,none⟩ (bZ c p) = WF at xT HYF kY ⊢
 have d0:=R xT 0 rfl
 have d1:=R xT 1 rfl
 have d2:=R xT 2 rfl
 have d3:=R xT 3 rfl
 have d4:=R xT 4 rfl
 have d5:=R xT 5 rfl
 have d6:=R xT 6 rfl
 have d7:=R xT 7 rfl
 have d8:=R xT 8 rfl
 have d9:=R xT 9 rfl
 have kN:=R xT 10 rfl
 have ox:=R xT 11 rfl
 have oy:=R xT 12 rfl
 have oz:=R xT 13 rfl
 have de:=R HYF 0 rfl
 simp [Leaves,settle,results,Tryz.results161,go_sem,d0,d1,d2,d3,d4,d5,d6,d7,d8,d9,kN,ox,oy,oz,de]
 exact ⟨⟨p,rfl⟩,U kY⟩
theorem tryE_check (B:Nat) (a:Option Addr) (len cap:Nat) (k c:Int) (w:World) (hr:Rdr B w (.slice a len cap) k)
  (hchk:∀ w0,Rdr B w0 (.slice a len cap) k→Calls Tryz.prog 193 #[.pointer (some ⟨B,0,none⟩)] w0 fun e w'=>e = .panicked (cC c k)∧∃ q,w' = w0.drewN q) :
  Calls Tryz.prog 161 #[.pointer (some ⟨B,0,none⟩),.func (.func 122) #[] #[]] w fun e w'=>(∃ p,e = .returned (.tuple #[evV zEv,bZ c p]))∧w.grownBy w' (some B):=by
 have hsf:=sfl
 have hmf:∀ (fn:Fn) (first cap:Array Value) (w:World),(Instr.makeFunc fn first cap).run Tryz.prog w = .ok (.func fn first cap) w:=fun _ _ _ _=>rfl
 have qe:=yL w _ hr.1
 have xC:Below w.heap.size w ((w.alloc (A (yw 0 0 0 0 0 0 0 0 ⟨#[]⟩ 0 0 0 0 0).toArray 52)).alloc (A #[.nilIface] 184)):=((Below.refl _ w).alloc yb _).alloc (by simp) _
 have HR:=H (eC hr xC qe)
 have HX:Hid (Bx ((w.alloc (A (yw 0 0 0 0 0 0 0 0 ⟨#[]⟩ 0 0 0 0 0).toArray 52)).alloc (A #[.nilIface] 184)) w.heap.size (yw 0 0 0 0 0 0 0 0 ⟨#[]⟩ 0 0 0 0 0)):=tryE_box w
 have HY:Hid (Bx ((w.alloc (A (yw 0 0 0 0 0 0 0 0 ⟨#[]⟩ 0 0 0 0 0).toArray 52)).alloc (A #[.nilIface] 184)) (w.heap.size + 1) [.nilIface]):=tryE_err w
 have HZ:Hid (((w.alloc (A (yw 0 0 0 0 0 0 0 0 ⟨#[]⟩ 0 0 0 0 0).toArray 52)).alloc (A #[.nilIface] 184)).heap.size = w.heap.size + 2):=by show _ = _; simp
 have HB:=H xC
 have HCk:=H hchk
 clear hr hchk xC
 unfold evV zEv
 simp only
 go_enter_defers Tryz.func161,Tryz.ntmps161
 go_wp2_with fail
 generalize ((w.alloc (A (yw 0 0 0 0 0 0 0 0 ⟨#[]⟩ 0 0 0 0 0).toArray 52)).alloc (A #[.nilIface] 184)) = W1 at HR HX HY HZ HB ⊢
 refine (U HCk _ (U HR)).mono ?_
 rintro e w2 ⟨rfl,q,qE⟩
 have hg:(W1.drewN q).grownBy w2 (some B):=by rw [qE]; exact yS _ _
 clear qE
 have hz:=U HZ
 have hX:Bx w2 w.heap.size (yw 0 0 0 0 0 0 0 0 ⟨#[]⟩ 0 0 0 0 0):=bx (dO (U HX) q) (hg.block w.heap.size (by show w.heap.size < W1.heap.size; omega) (by simp; omega))
 have hY:Bx w2 (w.heap.size + 1) [.nilIface]:=bx (dO (U HY) q) (hg.block (w.heap.size + 1) (by show w.heap.size + 1 < W1.heap.size; omega) (by simp; omega))
 have HG:Hid (w.grownBy w2 (some B)):=zZ (bel_gr (U HB) B) (zZ (cN W1 q _) hg)
 clear hg
 have xT:=zR (j:=0) (u:=bZ c k) hX (show w.heap.size ≠ w.heap.size + 1 by omega)
 have HYF:=bH (j:=0) (u:=bZ c k) hY (by decide)
 have kY:=H (gr_set1 (j:=0) (u:=bZ c k) (U HG) (show w.heap.size ≤ w.heap.size + 1 by omega))
 have hcE:=R hY 0 rfl
 have hfE:=zd hY 0 (by decide)
 clear HX HY HR HB HZ hz
 go_wp2_with fail
 refine leaves_cons (f:=192) (args:=#[.pointer (some ⟨w.heap.size + 1,0,none⟩)]) (by simp) (by simp [go_sem]) ?_
 refine (gg ⟨w.heap.size + 1,0,none⟩ .nilIface c k [] _ hcE hfE).mono ?_
 rintro e u' w'' ⟨rfl,rfl,hw⟩
 rw [hw]
 clear hw
 generalize w2.setCell ⟨w.heap.size + 1,0,none⟩ (bZ c k) = WF at xT HYF kY ⊢
 have d0:=R xT 0 rfl
 have d1:=R xT 1 rfl
 have d2:=R xT 2 rfl
 have d3:=R xT 3 rfl
 have d4:=R xT 4 rfl
 have d5:=R xT 5 rfl
 have d6:=R xT 6 rfl
 have d7:=R xT 7 rfl
 have d8:=R xT 8 rfl
 have d9:=R xT 9 rfl
 have kN:=R xT 10 rfl
 have ox:=R xT 11 rfl
 have oy:=R xT 12 rfl
 have oz:=R xT 13 rfl
 have de:=R HYF 0 rfl
 simp [Leaves,settle,results,Tryz.results161,go_sem,d0,d1,d2,d3,d4,d5,d6,d7,d8,d9,kN,ox,oy,oz,de]
 exact ⟨⟨k,rfl⟩,U kY⟩
def evR (l:List Int) (at_:Int):Ev × Int × Int :=
 if 65536 < l.length then (zEv,0,2) else if at_ < 0 ∨ (l.length:Int) < at_ then (zEv,0,5)
 else match evA l at_.toNat with | some (x,n)=>(x,(n:Int),0) | none=>(zEv,0,3)
def tupE (x:Ev) (y:Int × Int):Value:=.tuple #[evV x,I y.1,I y.2]
theorem evR_long {l:List Int} {k:Int} (h:65536 < l.length):evR l k = (zEv,0,2):=by unfold evR; rw [if_pos h]
theorem evR_out {l:List Int} {k:Int} (h:¬ 65536 < l.length) (N:k < 0 ∨ (l.length:Int) < k):evR l k = (zEv,0,5):=by unfold evR; rw [if_neg h,if_pos N]
theorem evR_some {l:List Int} {k:Nat} {x:Ev} {n:Nat} (h:¬ 65536 < l.length) (N:k ≤ l.length) (hg:evA l k = some (x,n)):evR l k = (x,(n:Int),0):=by
 unfold evR; rw [if_neg h,if_neg (by omega),Int.toNat_natCast,hg]
theorem evR_none {l:List Int} {k:Nat} (h:¬ 65536 < l.length) (N:k ≤ l.length) (hg:evA l k = none):evR l k = (zEv,0,3):=by
 unfold evR; rw [if_neg h,if_neg (by omega),Int.toNat_natCast,hg]
theorem rdE_box (w:World) (v:Value) (at_:Int):Bx ((w.alloc (A (yw 0 0 0 0 0 0 0 0 ⟨#[]⟩ 0 0 0 0 0).toArray 52)).alloc (A #[v,I at_] 182)) w.heap.size (yw 0 0 0 0 0 0 0 0 ⟨#[]⟩ 0 0 0 0 0)∧Rdr (w.heap.size + 1) ((w.alloc (A (yw 0 0 0 0 0 0 0 0 ⟨#[]⟩ 0 0 0 0 0).toArray 52)).alloc (A #[v,I at_] 182)) v at_∧yp w ((w.alloc (A (yw 0 0 0 0 0 0 0 0 ⟨#[]⟩ 0 0 0 0 0).toArray 52)).alloc (A #[v,I at_] 182))∧((w.alloc (A (yw 0 0 0 0 0 0 0 0 ⟨#[]⟩ 0 0 0 0 0).toArray 52)).alloc (A #[v,I at_] 182)).heap.size = w.heap.size + 2:=by
 have hs:(w.alloc (A (yw 0 0 0 0 0 0 0 0 ⟨#[]⟩ 0 0 0 0 0).toArray 52)).heap.size = w.heap.size + 1:=by simp
 refine ⟨zf (zq w (yw 0 0 0 0 0 0 0 0 ⟨#[]⟩ 0 0 0 0 0) 52) ((Below.refl (w.heap.size + 1) _).alloc (by simp) _) (by omega),?_,((Below.refl _ w).alloc yb _).alloc (by simp) _,by simp⟩
 have h:=rdr_new (w.alloc (A (yw 0 0 0 0 0 0 0 0 ⟨#[]⟩ 0 0 0 0 0).toArray 52)) v at_
 rwa [hs] at h
theorem readE_fine (v:Value) (len:Nat) (a:Option Addr) (cap:Nat) (hv:v = .slice a len cap) (at_:Int) (x:Ev) (next:Int) (w:World)
  (htry:∀ w0,w0 = ((w.alloc (A (yw 0 0 0 0 0 0 0 0 ⟨#[]⟩ 0 0 0 0 0).toArray 52)).alloc (A #[v,I at_] 182))→Calls Tryz.prog 161 #[.pointer (some ⟨w.heap.size + 1,0,none⟩),.func (.func 122) #[] #[]] w0 fun e w'=>e = .returned (.tuple #[evV x,.nilIface])∧Rdr (w.heap.size + 1) w' v next∧w0.grownBy w' (some (w.heap.size + 1))) :
  Calls Tryz.prog 121 #[v,I at_,.func (.func 122) #[] #[]] w fun e w'=>e = .returned (tupE x (next,0))∧yp w w':=by
 have hsf:=sfl
 obtain ⟨hX,K,hB,hZ⟩:=rdE_box w v at_
 have HT:=H (htry _ rfl)
 subst hv
 have HX:=H hX
 have HB:=H hB
 have HZ:=H hZ
 clear htry hX K hB hZ
 obtain ⟨xn,⟨ck,L,ct,V,cq,ci,O,cg⟩,id,xj,qty,xk,xi⟩:=x
 go_enter Tryz.func121,Tryz.ntmps121
 go_wp2_with fail
 generalize ((w.alloc (A (yw 0 0 0 0 0 0 0 0 ⟨#[]⟩ 0 0 0 0 0).toArray 52)).alloc (A #[.slice a len cap,I at_] 182)) = W0 at HT HX HB HZ ⊢
 refine (U HT).mono ?_
 rintro e W1 ⟨rfl,hr,hg⟩
 have hz:=U HZ
 have uf:=H ((U HB).trans (gr_below hg (show w.heap.size ≤ w.heap.size + 1 by omega) (by omega)))
 have hX1:=bx (U HX) (hg.block w.heap.size (by omega) (by simp))
 have uL:w.heap.size + 2 ≤ W1.heap.size:=by have:=hg.size; omega
 have qD:=gp W1 (A (yw xn ck L ct V cq ci O cg id xj qty xk xi).toArray 52)
 have pG:Hid (Bx (W1.alloc (A (yw xn ck L ct V cq ci O cg id xj qty xk xi).toArray 52)) W1.heap.size (yw xn ck L ct V cq ci O cg id xj qty xk xi)):=zq W1 (yw xn ck L ct V cq ci O cg id xj qty xk xi) 52
 have xJ:=H (zf hX1 qD (by omega))
 have bi:=eC hr qD (by omega)
 have xw:=H ((U uf).trans (qD.mono (by omega)))
 unfold evV
 simp only
 clear hg HX HB HZ hz hX1 qD uf hr HT
 go_wp2_with fail
 generalize (W1.alloc (A (yw xn ck L ct V cq ci O cg id xj qty xk xi).toArray 52)) = W2 at pG xJ bi xw ⊢
 obtain ⟨c1,c2,c3⟩:=bi
 obtain ⟨x0,x1,x2,x3,x4,x5,x6,x7,x8,x9,ka,kc,ke,kf⟩:=yz (U pG)
 have z0:=R (U xJ) 0 rfl
 have fz0:=zd (U xJ) 0 (by decide)
 have z1:=R (U xJ) 1 rfl
 have fz1:=zd (U xJ) 1 (by decide)
 have z2:=R (U xJ) 2 rfl
 have fz2:=zd (U xJ) 2 (by decide)
 have z3:=R (U xJ) 3 rfl
 have fz3:=zd (U xJ) 3 (by decide)
 have z4:=R (U xJ) 4 rfl
 have fz4:=zd (U xJ) 4 (by decide)
 have z5:=R (U xJ) 5 rfl
 have fz5:=zd (U xJ) 5 (by decide)
 have z6:=R (U xJ) 6 rfl
 have fz6:=zd (U xJ) 6 (by decide)
 have z7:=R (U xJ) 7 rfl
 have fz7:=zd (U xJ) 7 (by decide)
 have z8:=R (U xJ) 8 rfl
 have fz8:=zd (U xJ) 8 (by decide)
 have z9:=R (U xJ) 9 rfl
 have fz9:=zd (U xJ) 9 (by decide)
 have oq:=R (U xJ) 10 rfl
 have fz10:=zd (U xJ) 10 (by decide)
 have oM:=R (U xJ) 11 rfl
 have fz11:=zd (U xJ) 11 (by decide)
 have oN:=R (U xJ) 12 rfl
 have fz12:=zd (U xJ) 12 (by decide)
 have oO:=R (U xJ) 13 rfl
 have fz13:=zd (U xJ) 13 (by decide)
 have xT:=H (zu (us:=(yw xn ck L ct V cq ci O cg id xj qty xk xi)) (U xJ) rfl)
 have HBF:=H (zh w.heap.size yb (yw xn ck L ct V cq ci O cg id xj qty xk xi) 0 W2 (U xw))
 clear pG xJ xw
 go_region_with (fail)
 all_goals try go_wp2_with fail
 all_goals
  rw [set14]
  generalize (W2.setCells w.heap.size 0 (yw xn ck L ct V cq ci O cg id xj qty xk xi)) = WF at xT HBF ⊢
  obtain ⟨d0,d1,d2,d3,d4,d5,d6,d7,d8,d9,kN,ox,oy,oz⟩:=yz (zK (U xT))
  refine bodyPost_ret (v:=tupE ⟨xn,⟨ck,L,ct,V,cq,ci,O,cg⟩,id,xj,qty,xk,xi⟩ (next,0)) ?_ rfl ⟨rfl,(U HBF).drew⟩
  simp [results,Tryz.f121,go_sem,d0,d1,d2,d3,d4,d5,d6,d7,d8,d9,kN,ox,oy,oz,tupE,evV]
theorem fY (v:Value) (len:Nat) (a:Option Addr) (cap:Nat) (hv:v = .slice a len cap) (at_ c:Int) (w:World) (hE:ErrT w)
  (htry:∀ w0,w0 = ((w.alloc (A (yw 0 0 0 0 0 0 0 0 ⟨#[]⟩ 0 0 0 0 0).toArray 52)).alloc (A #[v,I at_] 182))→Calls Tryz.prog 161 #[.pointer (some ⟨w.heap.size + 1,0,none⟩),.func (.func 122) #[] #[]] w0 fun e w'=>(∃ p,e = .returned (.tuple #[evV zEv,bZ c p]))∧w0.grownBy w' (some (w.heap.size + 1))) :
  Calls Tryz.prog 121 #[v,I at_,.func (.func 122) #[] #[]] w fun e w'=>e = .returned (tupE zEv (0,c))∧yp w w':=by
 have hsf:=sfl
 obtain ⟨hX,K,hB,hZ⟩:=rdE_box w v at_
 have HT:=H (htry _ rfl)
 subst hv
 have HX:=H hX
 have HB:=H hB
 have HZ:=H hZ
 have HE:=H hE
 clear htry hX K hB hZ hE
 go_enter Tryz.func121,Tryz.ntmps121
 go_wp2_with fail
 generalize ((w.alloc (A (yw 0 0 0 0 0 0 0 0 ⟨#[]⟩ 0 0 0 0 0).toArray 52)).alloc (A #[.slice a len cap,I at_] 182)) = W0 at HT HX HB HZ ⊢
 refine (U HT).mono ?_
 rintro e W1 ⟨⟨p,rfl⟩,hg⟩
 have hz:=U HZ
 have ul:=(U HB).trans (gr_below hg (show w.heap.size ≤ w.heap.size + 1 by omega) (by omega))
 have hX1:=bx (U HX) (hg.block w.heap.size (by omega) (by simp))
 have uL:w.heap.size + 2 ≤ W1.heap.size:=by have:=hg.size; omega
 have qD:=gp W1 (A (yw 0 0 0 0 0 0 0 0 ⟨#[]⟩ 0 0 0 0 0).toArray 52)
 have uZ:(W1.alloc (A (yw 0 0 0 0 0 0 0 0 ⟨#[]⟩ 0 0 0 0 0).toArray 52)).heap.size = W1.heap.size + 1:=by simp
 have hbb:Below (W1.heap.size + 1) (W1.alloc (A (yw 0 0 0 0 0 0 0 0 ⟨#[]⟩ 0 0 0 0 0).toArray 52)) ((W1.alloc (A (yw 0 0 0 0 0 0 0 0 ⟨#[]⟩ 0 0 0 0 0).toArray 52)).alloc (A (yw 0 0 0 0 0 0 0 0 ⟨#[]⟩ 0 0 0 0 0).toArray 52)):=(Below.refl _ _).alloc (by omega) _
 have pH:Hid (Bx ((W1.alloc (A (yw 0 0 0 0 0 0 0 0 ⟨#[]⟩ 0 0 0 0 0).toArray 52)).alloc (A (yw 0 0 0 0 0 0 0 0 ⟨#[]⟩ 0 0 0 0 0).toArray 52)) (W1.heap.size + 1) (yw 0 0 0 0 0 0 0 0 ⟨#[]⟩ 0 0 0 0 0)):=by
  have h:=zq (W1.alloc (A (yw 0 0 0 0 0 0 0 0 ⟨#[]⟩ 0 0 0 0 0).toArray 52)) (yw 0 0 0 0 0 0 0 0 ⟨#[]⟩ 0 0 0 0 0) 52
  rw [uZ] at h
  exact h
 have uS:=H (zf (zf hX1 qD (by omega)) hbb (by omega))
 have xN:=H ((ul.trans (qD.mono (by omega))).trans (hbb.mono (by omega)))
 have HZ3:Hid (((W1.alloc (A (yw 0 0 0 0 0 0 0 0 ⟨#[]⟩ 0 0 0 0 0).toArray 52)).alloc (A (yw 0 0 0 0 0 0 0 0 ⟨#[]⟩ 0 0 0 0 0).toArray 52)).heap.size = W1.heap.size + 2):=by show _ = _; simp
 have HE3:=H (dh (U HE) (U xN) yb)
 unfold evV zEv bZ
 simp only
 clear hg HX HB HZ hz hX1 qD hbb ul HT uZ
 go_wp2_with fail
 generalize ((W1.alloc (A (yw 0 0 0 0 0 0 0 0 ⟨#[]⟩ 0 0 0 0 0).toArray 52)).alloc (A (yw 0 0 0 0 0 0 0 0 ⟨#[]⟩ 0 0 0 0 0).toArray 52)) = W2 at pH uS xN HZ3 HE3 ⊢
 obtain ⟨y0,y1,y2,y3,y4,y5,y6,y7,y8,y9,y10,y11,y12,y13⟩:=yz (U pH)
 have uy:Hid (Calls Tryz.prog 162 #[.iface 224 (.agg #[I c,I p])] W2.drew fun e w3=>e = .returned (I c)∧Bx w3 (W1.heap.size + 1) (yw 0 0 0 0 0 0 0 0 ⟨#[]⟩ 0 0 0 0 0)∧Bx w3 w.heap.size (yw 0 0 0 0 0 0 0 0 ⟨#[]⟩ 0 0 0 0 0)∧yp w w3):=by
  refine (codeOf_any c p W2.drew (U HE3)).mono ?_
  rintro e w3 ⟨rfl,xQ⟩
  have hzz:W2.drew.heap.size = W1.heap.size + 2:=U HZ3
  exact ⟨rfl,zf (zK (U pH)) xQ (by omega),zf (zK (U uS)) xQ (by omega),(U xN).drew.trans (xQ.mono (U xN).drew.size)⟩
 go_region_with (go_at_call 162; refine (U uy).mono ?_; rintro e w3 ⟨rfl,hN,hQ,hQB⟩; have HQ:=H hQ; have HQB:=H hQB; have g0:=R (hN) 0 rfl; have g1:=R (hN) 1 rfl; have g2:=R (hN) 2 rfl; have g3:=R (hN) 3 rfl; have g4:=R (hN) 4 rfl; have g5:=R (hN) 5 rfl; have g6:=R (hN) 6 rfl; have g7:=R (hN) 7 rfl; have g8:=R (hN) 8 rfl; have g9:=R (hN) 9 rfl; have qy:=R (hN) 10 rfl; have vI:=R (hN) 11 rfl; have ua:=R (hN) 12 rfl; have qP:=R (hN) 13 rfl; have z0:=R (hQ) 0 rfl; have fz0:=zd (hQ) 0 (by decide); have z1:=R (hQ) 1 rfl; have fz1:=zd (hQ) 1 (by decide); have z2:=R (hQ) 2 rfl; have fz2:=zd (hQ) 2 (by decide); have z3:=R (hQ) 3 rfl; have fz3:=zd (hQ) 3 (by decide); have z4:=R (hQ) 4 rfl; have fz4:=zd (hQ) 4 (by decide); have z5:=R (hQ) 5 rfl; have fz5:=zd (hQ) 5 (by decide); have z6:=R (hQ) 6 rfl; have fz6:=zd (hQ) 6 (by decide); have z7:=R (hQ) 7 rfl; have fz7:=zd (hQ) 7 (by decide); have z8:=R (hQ) 8 rfl; have fz8:=zd (hQ) 8 (by decide); have z9:=R (hQ) 9 rfl; have fz9:=zd (hQ) 9 (by decide); have oq:=R (hQ) 10 rfl; have fz10:=zd (hQ) 10 (by decide); have oM:=R (hQ) 11 rfl; have fz11:=zd (hQ) 11 (by decide); have oN:=R (hQ) 12 rfl; have fz12:=zd (hQ) 12 (by decide); have oO:=R (hQ) 13 rfl; have fz13:=zd (hQ) 13 (by decide); clear hN hQ hQB)
 all_goals try go_wp2_with fail
 all_goals
  rw [set14]
  have xT:=H (zu (us:=(yw 0 0 0 0 0 0 0 0 ⟨#[]⟩ 0 0 0 0 0)) (U HQ) rfl)
  have HBF:=H (zh w.heap.size yb (yw 0 0 0 0 0 0 0 0 ⟨#[]⟩ 0 0 0 0 0) 0 w3 (U HQB))
  generalize (w3.setCells w.heap.size 0 (yw 0 0 0 0 0 0 0 0 ⟨#[]⟩ 0 0 0 0 0)) = WF at xT HBF ⊢
  obtain ⟨d0,d1,d2,d3,d4,d5,d6,d7,d8,d9,kN,ox,oy,oz⟩:=yz (U xT)
  refine bodyPost_ret (v:=tupE zEv (0,c)) ?_ rfl ⟨rfl,U HBF⟩
  simp [results,Tryz.f121,go_sem,d0,d1,d2,d3,d4,d5,d6,d7,d8,d9,kN,ox,oy,oz,tupE,evV,zEv]
end Go.Proofs.YtnphbkgfjanmgaaGreatDoor
