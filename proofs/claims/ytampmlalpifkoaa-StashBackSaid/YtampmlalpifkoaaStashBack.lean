/- StashBack answers true. -/
import Derived.Test.YtampmlalpifkoaaStashT
namespace Go.Proofs.Ytampmlalpifkoaa
open Go.Eng
set_option linter.unusedVariables false
set_option linter.unusedSimpArgs false
theorem xZ9 : zKm ()=some (8,(1,(3,(73,())))):=rfl
theorem xZ4 (i f : Int) : zXz (i,f)=some (i,(0,([f],()))):=by
 unfold zXz
 exact zQu (Qf _) rfl
theorem pS_a : pS 8 1 3 73 [] (5,(0,([1],())))=([(5,(0,([1],())))],0):=by decide
theorem pS_b : pS 8 1 3 73 [(5,(0,([1],())))] (2,(0,([1],())))=([(2,(0,([1],()))),(5,(0,([1],())))],0):=by decide
theorem pS_c : pS 8 1 3 73 [(2,(0,([1],()))),(5,(0,([1],())))] (5,(0,([9],())))=([(2,(0,([1],()))),(5,(0,([9],())))],0):=by decide
theorem two16 : yWs ()=some [(2,(0,([1],()))),(5,(0,([1],())))]:=by
 unfold yWs
 refine zQl (xZ4 2 1) (zQl (xZ4 5 1) ?_)
 exact zQu (Qf _) rfl
theorem vW6 : zJv ()=some true:=by
 unfold zJv
 refine zQl xZ9 (zQl (xZ4 5 1) ?_)
 refine zQl ((zZu 8 1 3 73 [] (5,(0,([1],()))) (by simp)).trans (congrArg some pS_a)) ?_
 refine zQl xZ9 (zQl (xZ4 2 1) ?_)
 refine zQl ((zZu 8 1 3 73 [(5,(0,([1],())))] (2,(0,([1],()))) (by simp)).trans (congrArg some pS_b)) ?_
 refine zQl xZ9 (zQl (xZ4 5 9) ?_)
 refine zQl ((zZu 8 1 3 73 [(2,(0,([1],()))),(5,(0,([1],())))] (5,(0,([9],()))) (by simp)).trans (congrArg some pS_c)) ?_
 refine zQy rfl (zQy rfl ?_)
 refine zQl two16 (zQl (zJ8 _ (by simp)) ?_)
 refine zQy rfl (zQy rfl ?_)
 refine zQl (xZ4 2 1) (zQl (xZ4 5 9) ?_)
 refine zQu (Qf _) ?_
 exact zQl (zJ8 _ (by simp)) rfl
theorem xQp (B S H W : Int) (s : List Blk) (b : Blk) (id : Int) : zZe ((B,(S,(H,(W,())))),(s,(b,id)))=some true:=by
  unfold zZe
  dsimp only
  refine zQl vW6 ?_
  refine xX1 (fun j=>j=true∨(j=false∧s.length≤40)) (fun j hj=>?_) (fun k hk=>?_)
  · rcases hj with rfl | ⟨rfl, hs⟩
    · exact zQy rfl rfl
    refine zQ0 rfl ?_
    have hl : s.length≤1000000:=by omega
    refine zQl (zZu B S H W s b hl) ?_
    by_cases h0 : ckS B S H W s=0
    · by_cases c0 : zYw B S H W b.1 b.2.1 b.2.2.1 = 0
      · have hst := (yJd h0)
        have hp:=(yW9.1 hst.2).2
        have hb : xWz B S H b.1 b.2.1 b.2.2.1=true:=by
          unfold zYw at c0
          rw [if_pos hst.1] at c0
          split at c0
          · assumption
          · simp at c0
        have hr : ckS B S H W (putR s b)=0:=by
          unfold ckS
          rw [if_pos hst.1,if_pos (zYa hst.2 hb)]
        have hrl:=wWh s b hp
        have hl2 : (putR s b).length≤1000000:=by rw [hrl]; split<;>omega
        have hf:=xJe s b
        have e1 : pS B S H W s b=(putR s b,0):=by unfold pS; rw [if_pos h0,if_pos c0]
        have e2 : ∀ i,fndS B S H W (putR s b) i=if i=b.1 then (b,true) else fndS B S H W s i:=fun i=>by
          unfold fndS
          rw [if_pos hr,if_pos h0,hf i]
          by_cases hi : i=b.1
          · rw [if_pos hi,if_pos hi]
          · rw [if_neg hi,if_neg hi]
        have e3 : dS B S H W (putR s b) b.1=(xWs (putR s b) b.1,0):=by
          unfold dS
          rw [if_pos hr,hf b.1,if_pos rfl]
          rfl
        have e4 : (fndS B S H W s b.1).2=(fdS s b.1).isSome:=by
          unfold fndS
          rw [if_pos h0]
          cases fdS s b.1<;>rfl
        rw [e1]
        refine zQ0 rfl ?_
        refine zQl (zX8 B S H W (putR s b) b.1 hl2) ?_
        refine zQl (zX8 B S H W s b.1 hl) ?_
        refine zQl (yZ6 B S H W (putR s b) b.1 hl2) ?_
        refine zQl (zX8 B S H W (putR s b) id hl2) ?_
        refine zQl (zX8 B S H W s id hl) ?_
        rw [e2 b.1,if_pos rfl,e3,e2 id]
        refine xX1 (fun j=>j=false) (fun j hj=>?_) (fun k hk=>?_)
        · subst hj
          refine zQ0 rfl ?_
          refine xX1 (fun j=>j=true) (fun j hj=>by rw [hj]) (fun k hk=>?_)
          refine zQy rfl ?_
          have two : (bif (fndS B S H W s b.1).2 then (bif (Z.zQj true (Z.ieq (Z.ofN (Z.len (putR s b))) (Z.ofN (Z.len s))) false) then k (Z.zQj true true false)
 else (bif (Z.bnot (fndS B S H W s b.1).2) then Z.bnd (Z.wrap .i64 (Z.add (Z.ofN (Z.len s)) 1)) fun (x19 : Int) =>
 k (Z.zQj true (Z.zQj false true (Z.zQj true (Z.ieq (Z.ofN (Z.len (putR s b))) x19) false)) false)
 else k (Z.zQj true (Z.zQj false true false) false)))
 else (bif (Z.bnot (fndS B S H W s b.1).2) then Z.bnd (Z.wrap .i64 (Z.add (Z.ofN (Z.len s)) 1)) fun (x20 : Int) =>
 k (Z.zQj true (Z.zQj false true (Z.zQj true (Z.ieq (Z.ofN (Z.len (putR s b))) x20) false)) false)
 else k (Z.zQj true (Z.zQj false true false) false)))=some true:=by
            rw [e4]
            cases hc : (fdS s b.1).isSome with
            | true =>
              rw [hc,if_pos rfl] at hrl
              refine zQy rfl (zQy ?_ (hk _ rfl))
              show (if true=true then Z.ieq ((putR s b).length : Int) (s.length : Int) else false)=true
              rw [hrl]; simp [Z.ieq]
            | false =>
              rw [hc,if_neg (by simp)] at hrl
              refine zQ0 rfl (zQy rfl ?_)
              refine zQ4 (xXc (i:=s.length) (by omega)) (hk _ ?_)
              show Z.zQj true (Z.zQj false true (Z.zQj true (Z.ieq ((putR s b).length : Int) ((s.length+1 : Nat) : Int)) false)) false=true
              rw [hrl]; simp [Z.ieq,Z.zQj]
          by_cases hid : id=b.1
          · refine zQy (by simp [Z.ieq, hid]) ?_
            exact two
          · refine zQ0 (by simp [Z.ieq, hid]) ?_
            rw [if_neg hid]
            refine zQy (by simp [Z.beq]) ?_
            refine zQl (yKc _) ?_
            refine zQy rfl ?_
            exact two
        · refine zQl (zX9 B S H W (putR s b) (by omega)) ?_
          rw [hr]
          refine zQ0 rfl (zQ0 rfl ?_)
          refine zQl (yKc b) ?_
          refine zQ0 rfl (zQ0 rfl ?_)
          rw [e4]
          cases hc : fdS s b.1 with
          | some x=>exact zQ0 rfl (hk _ rfl)
          | none =>
            refine zQy rfl ?_
            rw [xJf s b hp hc]
            exact zQl (zJ8 s hl) (hk _ rfl)
      · have e1 : pS B S H W s b = ([], 8) := by unfold pS; rw [if_pos h0, if_neg c0]
        rw [e1]
        refine zQy rfl ?_
        refine xX1 (fun j=>j=true) (fun j hj=>by rw [hj]) (fun k hk=>?_)
        exact zQy rfl (hk _ rfl)
    · have e1 : pS B S H W s b = ([], 8) := by unfold pS; rw [if_neg h0]
      rw [e1]
      refine zQy rfl ?_
      refine xX1 (fun j=>j=true) (fun j hj=>by rw [hj]) (fun k hk=>?_)
      exact zQy rfl (hk _ rfl)
  · refine zQl (yZj s 40) ?_
    cases hg : grtS s 40 with
    | true=>exact zQy rfl (hk _ (.inl rfl))
    | false =>
      have hs : s.length≤40:=by
        unfold grtS at hg
        rw [Bool.or_eq_false_iff] at hg
        have:=of_decide_eq_false hg.1
        omega
      refine zQ0 rfl ?_
      by_cases hc : (b.2.2.1.length : Int) > 1000
      · exact zQy (by simp [Z.zQj,Z.igt]; omega) (hk _ (.inl rfl))
      · exact zQ0 (by simp [Z.zQj,Z.igt]; omega) (hk _ (.inr ⟨rfl,hs⟩))
theorem yQl (d : Els zXt.args) (hf : Fits zXt.args d) : zZe d=some true:=by
 obtain ⟨⟨B,S,H,W,_⟩,s,b,id⟩:=d
 exact xQp B S H W s b id
end Go.Proofs.Ytampmlalpifkoaa
