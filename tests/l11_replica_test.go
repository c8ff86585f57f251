package tests

import (
	"fmt"
	"math"
	"math/rand/v2"
	"slices"
	"testing"

	"loop.example/g00369/impl"
)

// inFirst is a replica in View 0.
func inFirst(id int64) impl.Replica {
	return impl.Replica{Id: id, Start: -1}
}

// inNew is a replica that began a view at a place.
func inNew(id int64, view int64, start int) impl.Replica {
	return impl.Replica{Id: id, View: view, Start: int64(start)}
}

// waiting is a replica whose view has not begun.
func waiting(id int64, view int64) impl.Replica {
	return impl.Replica{Id: id, View: view, Start: -1}
}

func withDone(r impl.Replica, done int64) impl.Replica {
	r.Done = done
	return r
}

func noMsg(code int64) impl.MsgResult {
	return impl.MsgResult{Code: code}
}

func msgResult(m impl.Msg) impl.MsgResult {
	return impl.MsgResult{Msg: m}
}

func checkReplica(t *testing.T, name string, f int64, ledger []impl.Msg, r impl.Replica, want int64) {
	t.Helper()
	checkFine(t, name, f, ledger)
	if got := impl.ReplicaFault(f, ledger, r); got != want {
		t.Errorf("%s: f %d: ReplicaFault of %+v: %d, want %d", name, f, r, got, want)
	}
}

func checkPropose(t *testing.T, name string, f int64, ledger []impl.Msg, r impl.Replica, slot int64, value int64, want int64) {
	t.Helper()
	checkReplica(t, name, f, ledger, r, impl.OK)
	if got := impl.MayPropose(f, ledger, r, slot, value); got != want {
		t.Errorf("%s: f %d: %+v: MayPropose %d, %d: %d, want %d", name, f, r, slot, value, got, want)
	}
}

func checkPrepare(t *testing.T, name string, f int64, ledger []impl.Msg, r impl.Replica, place int, want int64) {
	t.Helper()
	checkReplica(t, name, f, ledger, r, impl.OK)
	if got := impl.MayPrepare(f, ledger, r, int64(place)); got != want {
		t.Errorf("%s: f %d: %+v: MayPrepare %d: %d, want %d", name, f, r, place, got, want)
	}
}

func checkCommit(t *testing.T, name string, f int64, ledger []impl.Msg, r impl.Replica, slot int64, value int64, want int64) {
	t.Helper()
	checkReplica(t, name, f, ledger, r, impl.OK)
	if got := impl.MayCommit(f, ledger, r, slot, value); got != want {
		t.Errorf("%s: f %d: %+v: MayCommit %d, %d: %d, want %d", name, f, r, slot, value, got, want)
	}
}

func checkChangeMsg(t *testing.T, name string, f int64, ledger []impl.Msg, r impl.Replica, view int64, want impl.MsgResult) {
	t.Helper()
	checkReplica(t, name, f, ledger, r, impl.OK)
	if got := impl.ChangeMsg(f, ledger, r, view); !sameMsgResult(got, want) {
		t.Errorf("%s: f %d: %+v: ChangeMsg %d: %+v, want %+v", name, f, r, view, got, want)
	}
}

func checkNewMsg(t *testing.T, name string, f int64, ledger []impl.Msg, r impl.Replica, want impl.MsgResult) {
	t.Helper()
	checkReplica(t, name, f, ledger, r, impl.OK)
	if got := impl.NewMsg(f, ledger, r); !sameMsgResult(got, want) {
		t.Errorf("%s: f %d: %+v: NewMsg: %+v, want %+v", name, f, r, got, want)
	}
}

// checkReplicaCode asks all functions, which must tell one code and nothing else.
func checkReplicaCode(t *testing.T, name string, c replicaCall, want int64) {
	t.Helper()
	if got := programReplica(c); !sameReplicas(got, faultOf(want)) {
		t.Errorf("%s: %+v: %+v, want the code %d alone", name, c.r, got, want)
	}
}

// asksOf are calls of one replica in which all else is in its bounds, and in which all else is wrong.
func asksOf(f int64, ledger []impl.Msg, r impl.Replica) []replicaCall {
	calls := []replicaCall{{next: cert(1, 0, 1), place: 0, done: cert(1, 0, 1), view: 20}, {next: cert(3, 0, 6), place: 9, done: cert(2, 0, 5), view: 2}, {next: cert(0, 0, 13), place: -1, done: cert(31, 0, -1), view: 21}, {}}
	for i := range calls {
		calls[i].f, calls[i].ledger, calls[i].r = f, ledger, r
	}
	return calls
}

// led is begun, with what replica 2 said as the primary of View 1, and three of four decided the slot 1 there.
func led() []impl.Msg {
	return ledgerOf(begun(), prepares(1, 1, 0, 1, 2, 3), commits(1, 1, 0, 2, 3, 4), prepares(1, 2, 5, 1, 3, 4))
}

// ledCall asks replica 2 of led; the next to be prepared is at place 9.
func ledCall() replicaCall {
	return replicaCall{f: 1, ledger: led(), r: impl.Replica{Id: 2, View: 1, Start: 7, Done: 1}, next: cert(3, 0, 6), place: 9, done: cert(2, 0, 5), view: 3}
}

func TestReplicaOfOneThatBegan(t *testing.T) {
	want := replicaAnswers{change: msgResult(changing(3, 2, cert(1, 1, 0))), begin: noMsg(impl.ErrState)}
	if got := programReplica(ledCall()); !sameReplicas(got, want) {
		t.Errorf("%+v, want %+v", got, want)
	}
	// Who has not begun there may leave it, and begin it; and may say nothing else of it.
	c := ledCall()
	c.r.Start = -1
	want = replicaAnswers{propose: impl.ErrState, prepare: impl.ErrForm, commit: impl.ErrState, change: msgResult(changing(3, 2, cert(1, 1, 0))), begin: msgResult(beginning(1, 2, 4, 5, 6))}
	if got := programReplica(c); !sameReplicas(got, want) {
		t.Errorf("not begun: %+v, want %+v", got, want)
	}
}

func TestReplicasAskFFirst(t *testing.T) {
	ledgers := [][]impl.Msg{nil, led(), manyMsgs(240), make([]impl.Msg, 241), msgs(newcomer, newcomer), msgs(beginning(1, 1, 0)), msgs(impl.Msg{})}
	ones := []impl.Replica{inFirst(1), ledCall().r, waiting(2, 1), inNew(1, 0, 3), withDone(inFirst(1), 30), {Id: 9, View: -1, Start: 999, Done: 31}, {}}
	for _, f := range noFs {
		for i, ledger := range ledgers {
			for _, r := range ones {
				for _, c := range asksOf(f, ledger, r) {
					checkReplicaCode(t, fmt.Sprintf("f %d, ledger %d", f, i), c, impl.ErrRange)
				}
			}
		}
	}
	// Of seven three changes are not enough, so the view has not begun there.
	for _, c := range asksOf(2, led(), ledCall().r) {
		checkReplicaCode(t, "three of seven", c, impl.ErrForm)
	}
	// The last one of seven is none of four.
	for _, c := range asksOf(1, nil, inFirst(7)) {
		checkReplicaCode(t, "the seventh of four", c, impl.ErrRange)
	}
	checkReplica(t, "the seventh of seven", 2, nil, inFirst(7), impl.OK)
}

// A code of the ledger comes ahead of that of the replica and of all else.
func TestReplicasAskTheLedgerFirst(t *testing.T) {
	check := func(name string, f int64, ledger []impl.Msg, want int64) {
		t.Helper()
		for _, r := range []impl.Replica{ledCall().r, inFirst(1), {Id: 0, View: 21, Start: 0, Done: -1}, inNew(1, 0, 5), withDone(inFirst(2), 30), {}} {
			for _, c := range asksOf(f, ledger, r) {
				checkReplicaCode(t, name, c, want)
			}
		}
	}
	for _, l := range faultyLedgers() {
		check(l.name, l.f, l.ledger, l.want)
	}
	for _, c := range faultyMsgs() {
		if c.f == 1 {
			check("led, and behind it "+c.name, 1, ledgerOf(led(), msgs(c.m)), c.want)
		}
	}
	check("led, one of them twice", 1, ledgerOf(led(), led()[:1]), impl.ErrTaken)
	check("led, and one of a replica that is none", 1, ledgerOf(led(), changesBy(1, 5)), impl.ErrRange)
	check("led, and one that names itself", 1, ledgerOf(led(), msgs(beginning(1, 2, 19))), impl.ErrNone)
	check("led, and too many", 1, ledgerOf(led(), manyMsgs(222)), impl.ErrMany)
	// Nothing of this is so of as many as may be.
	full := ledCall()
	full.ledger = ledgerOf(full.ledger, manyMsgs(221))
	if got, want := programReplica(full), modelReplica(full); len(full.ledger) != 240 || got.fault != impl.OK || !sameReplicas(got, want) {
		t.Errorf("%d messages: %+v, want %+v", len(full.ledger), got, want)
	}
}

func TestReplicasOfNothing(t *testing.T) {
	for _, f := range []int64{1, 2} {
		for _, ledger := range [][]impl.Msg{nil, {}} {
			for id := int64(1); id <= 3*f+1; id++ {
				for view := int64(0); view <= 20; view++ {
					r := waiting(id, view)
					leads := impl.PrimaryOf(f, view).Value == id
					checkReplica(t, "no message", f, ledger, r, impl.OK)
					want := int64(impl.ErrState)
					if view == 0 && leads {
						want = impl.OK
					}
					checkPropose(t, "no message", f, ledger, r, 1, 1, want)
					for _, place := range []int{math.MinInt64, -2, -1, 0, 1, math.MaxInt64} {
						checkPrepare(t, "no message", f, ledger, r, place, impl.ErrForm)
					}
					want = impl.ErrState
					if view == 0 {
						want = impl.ErrSign
					}
					checkCommit(t, "no message", f, ledger, r, 1, 1, want)
					for next := view + 1; next <= 20; next++ {
						checkChangeMsg(t, "no message", f, ledger, r, next, msgResult(changing(next, id)))
					}
					want = impl.ErrState
					if view > 0 && leads {
						want = impl.ErrSign
					}
					checkNewMsg(t, "no message", f, ledger, r, noMsg(want))
				}
				for _, start := range []int{math.MinInt64, -2, 0, 1, math.MaxInt64} {
					checkReplica(t, "a start in no ledger", f, ledger, inNew(id, 0, start), impl.ErrForm)
					checkReplica(t, "a start in no ledger", f, ledger, inNew(id, 1, start), impl.ErrForm)
				}
				checkReplica(t, "Done of nothing", f, ledger, withDone(inFirst(id), 1), impl.ErrState)
			}
		}
	}
}

func TestReplicaFaultAsksNumbers(t *testing.T) {
	far := []int64{math.MinInt64, -1 << 32, -2, -1, 0, 1, 2, 3, 4, 5, 6, 7, 8, 19, 20, 21, 22, 29, 30, 31, 32, 1<<32 + 1, math.MaxInt64}
	for _, f := range []int64{1, 2} {
		// All slots are decided in full, so Done is asked for its bounds alone.
		full := slices.Clone(fullLedger())
		if f == 2 {
			full = nil
			for slot := int64(1); slot <= 30; slot++ {
				full = append(full, commits(0, slot, 1, 1, 3, 4, 6, 7)...)
			}
		}
		for _, n := range far {
			code := func(is bool) int64 {
				if is {
					return impl.OK
				}
				return impl.ErrRange
			}
			isId, isView, isDone := n >= 1 && n <= 3*f+1, n >= 0 && n <= 20, n >= 0 && n <= 30
			for _, ledger := range [][]impl.Msg{nil, full} {
				checkReplica(t, "an Id", f, ledger, inFirst(n), code(isId))
				checkReplica(t, "a View", f, ledger, waiting(1, n), code(isView))
				checkReplica(t, "all three", f, ledger, impl.Replica{Id: n, View: n, Start: -1, Done: -1}, impl.ErrRange)
			}
			checkReplica(t, "a Done", f, full, withDone(inFirst(1), n), code(isDone))
			checkReplica(t, "a Done in the last View", f, full, withDone(waiting(3*f+1, 20), n), code(isDone))
			checkReplica(t, "all three", f, full, impl.Replica{Id: n, View: n, Start: -1, Done: n}, code(isId && isView && isDone))
		}
	}
}

// starts has news at the places 9 to 18, and some that is none; rightStarts tells in which View a replica may have begun at a place.
func starts() []impl.Msg {
	return ledgerOf(
		changesBy(1, 1, 2, 3), changesBy(5, 1, 2, 3), changesBy(0, 1, 2, 3),
		msgs(beginning(1, 2, 0, 1, 2), beginning(5, 2, 3, 4, 5), beginning(1, 2, 0, 1), beginning(1, 3, 0, 1, 2), beginning(5, 2, 0, 1, 2), beginning(0, 1, 6, 7, 8), beginning(1, 2), beginning(2, 3, 0, 1, 2)),
		msgs(changing(1, 4, cert(1, 0, 9)), beginning(1, 2, 0, 1, 17)), oneOfEachKind(9, 2), changesBy(20, 4, 3, 2), msgs(beginning(20, 1, 24, 25, 26)))
}

var rightStarts = map[int]int64{9: 1, 10: 5, 27: 20}

func TestReplicaFaultAsksTheStart(t *testing.T) {
	ledger := starts()
	last := len(ledger) - 1
	if last != 27 {
		t.Fatalf("the last place is %d", last)
	}
	check := func(start int) {
		t.Helper()
		view, right := rightStarts[start]
		for v := int64(0); v <= 20; v++ {
			want := int64(impl.ErrForm)
			if start == -1 || right && v == view {
				want = impl.OK
			}
			for id := int64(1); id <= 4; id++ {
				checkReplica(t, "a start", 1, ledger, inNew(id, v, start), want)
			}
		}
	}
	for start := -3; start <= last+3; start++ {
		check(start)
	}
	for _, start := range beyond(len(ledger)) {
		check(start)
	}
	// With enough prepares the change at 17 is right, and so is the start that names it.
	checkReplica(t, "a change that is not right", 1, ledger, inNew(1, 1, 18), impl.ErrForm)
	checkReplica(t, "a change that is right", 1, ledgerOf(ledger, prepared(1, cert(1, 0, 9))), inNew(1, 1, 18), impl.OK)
	checkReplica(t, "the first place", 1, msgs(beginning(1, 2)), inNew(1, 1, 0), impl.ErrForm)
	checkReplica(t, "the last of 240", 1, ledgerOf(changesBy(1, 1, 2, 3), manyMsgs(236), msgs(beginning(1, 2, 0, 1, 2))), inNew(3, 1, 239), impl.OK)
	checkReplica(t, "one behind 240", 1, ledgerOf(changesBy(1, 1, 2, 3), manyMsgs(236), msgs(beginning(1, 2, 0, 1, 2))), inNew(3, 1, 240), impl.ErrForm)
}

func TestReplicaFaultAsksDone(t *testing.T) {
	for _, f := range []int64{1, 2} {
		enough, few := firstOnes(2*f+1), firstOnes(2*f)
		for many := int64(0); many <= 30; many++ {
			var ledger []impl.Msg
			for slot := int64(1); slot <= many; slot++ {
				ledger = append(ledger, commits(slot%3, slot, slot%13, enough...)...)
			}
			for done := int64(0); done <= 30; done++ {
				want := int64(impl.OK)
				if done > many {
					want = impl.ErrState
				}
				checkReplica(t, fmt.Sprintf("%d slots", many), f, ledger, withDone(inFirst(1), done), want)
			}
		}
		gap := ledgerOf(commits(0, 1, 4, enough...), commits(0, 3, 4, enough...), commits(0, 2, 4, few...), commits(1, 2, 4, 3*f+1))
		checkReplica(t, "up to a gap", f, gap, withDone(inFirst(1), 1), impl.OK)
		checkReplica(t, "the gap", f, gap, withDone(inFirst(1), 2), impl.ErrState)
		checkReplica(t, "behind a gap", f, gap, withDone(inFirst(1), 3), impl.ErrState)
		closed := ledgerOf(gap, commits(0, 2, 4, 2*f+1))
		checkReplica(t, "a gap that was closed", f, closed, withDone(inFirst(1), 3), impl.OK)
		checkReplica(t, "one behind it", f, closed, withDone(inFirst(1), 4), impl.ErrState)
		checkReplica(t, "prepares alone", f, prepares(0, 1, 4, enough...), withDone(inFirst(1), 1), impl.ErrState)
		// What it has done hangs on no View and not on who committed it.
		checkReplica(t, "one that committed nothing", f, gap, withDone(waiting(3*f+1, 7), 1), impl.OK)
	}
	checkReplica(t, "two values of one slot", 1, ledgerOf(commits(0, 1, 4, 1, 2, 3), commits(1, 1, 5, 1, 2, 3)), withDone(inFirst(1), 2), impl.ErrState)
}

// Of the codes of a replica the first that is so is told, by each function, whatever else is wrong.
func TestReplicaFaultTellsTheFirstCode(t *testing.T) {
	decided := ledgerOf(begun(), commits(0, 1, 5, 1, 2, 3))
	spoils := []struct {
		code int64
		ways []func(c *replicaCall)
	}{
		{impl.ErrTaken, []func(c *replicaCall){func(c *replicaCall) { c.ledger = append(slices.Clone(c.ledger), c.ledger[0]) }}},
		{impl.ErrRange, []func(c *replicaCall){
			func(c *replicaCall) { c.r.Id = 0 }, func(c *replicaCall) { c.r.Id = 5 },
			func(c *replicaCall) { c.r.View = 21 }, func(c *replicaCall) { c.r.View = -1 },
		}},
		{impl.ErrForm, []func(c *replicaCall){
			func(c *replicaCall) { c.r.Start = -2 }, func(c *replicaCall) { c.r.Start = 4 },
			func(c *replicaCall) { c.r.Start = int64(len(decided)) }, func(c *replicaCall) { c.r.Start = 240 },
		}},
		{impl.ErrState, []func(c *replicaCall){func(c *replicaCall) { c.r.Done = 2 }, func(c *replicaCall) { c.r.Done = 30 }}},
	}
	for set := range uint(1) << len(spoils) {
		want := int64(impl.OK)
		for i := len(spoils) - 1; i >= 0; i-- {
			if set&(1<<i) != 0 {
				want = spoils[i].code
			}
		}
		if want == impl.OK {
			continue
		}
		for turn := range 4 {
			for _, base := range asksOf(1, decided, impl.Replica{Id: 2, View: 1, Start: 7, Done: 1}) {
				for i, s := range spoils {
					if set&(1<<i) != 0 {
						s.ways[turn%len(s.ways)](&base)
					}
				}
				checkReplicaCode(t, fmt.Sprintf("%04b", set), base, want)
			}
		}
	}
	for _, c := range asksOf(1, decided, impl.Replica{Id: 2, View: 1, Start: 7, Done: 1}) {
		checkReplica(t, "none", c.f, c.ledger, c.r, impl.OK)
	}
	// A Done out of its bounds comes ahead of Start, one that is above the log behind it.
	checkReplica(t, "Done -1 and Start", 1, decided, withDone(inNew(1, 0, 7), -1), impl.ErrRange)
	checkReplica(t, "Done 31 and Start", 1, decided, withDone(inNew(1, 0, 7), 31), impl.ErrRange)
	checkReplica(t, "Done 30 and Start", 1, decided, withDone(inNew(1, 0, 7), 30), impl.ErrForm)
	checkReplica(t, "Done 30", 1, decided, withDone(inFirst(1), 30), impl.ErrState)
}

// proposes are those of one replica, from slot 1 on.
func proposes(view int64, from int64, values ...int64) []impl.Msg {
	var list []impl.Msg
	for at, value := range values {
		list = append(list, said(impl.MsgPropose, view, from, int64(at)+1, value))
	}
	return list
}

func TestMayProposeAsksSlotAndValue(t *testing.T) {
	far := []int64{math.MinInt64, -2, -1, 0, 31, 32, 1<<32 + 1, math.MaxInt64}
	for _, f := range []int64{1, 2} {
		for many := range 30 {
			ledger := proposes(0, 1, alike(3, many)...)
			next := int64(many) + 1
			checkPropose(t, "the next slot", f, ledger, inFirst(1), next, 4, impl.OK)
			for value := int64(1); value <= 12; value++ {
				want := int64(impl.OK)
				if value == 3 && many > 0 {
					want = impl.ErrForm
				}
				checkPropose(t, "each value", f, ledger, inFirst(1), next, value, want)
			}
			checkPropose(t, "the value 0", f, ledger, inFirst(1), next, 0, impl.ErrForm)
			for slot := int64(1); slot <= 30; slot++ {
				want := int64(impl.ErrNone)
				if slot < next {
					want = impl.ErrTaken
				} else if slot == next {
					want = impl.OK
				}
				checkPropose(t, "each slot", f, ledger, inFirst(1), slot, 5, want)
			}
			for _, value := range []int64{math.MinInt64, -1, 13, 14, 1<<32 + 1, math.MaxInt64} {
				checkPropose(t, "no value", f, ledger, inFirst(1), next, value, impl.ErrRange)
			}
			for _, slot := range far {
				checkPropose(t, "no slot", f, ledger, inFirst(1), slot, 4, impl.ErrRange)
				checkPropose(t, "neither", f, ledger, inFirst(1), slot, 13, impl.ErrRange)
			}
		}
		thirty := proposes(0, 1, alike(3, 30)...)
		checkPropose(t, "one behind the last slot", f, thirty, inFirst(1), 31, 4, impl.ErrRange)
		checkPropose(t, "the last slot, taken", f, thirty, inFirst(1), 30, 4, impl.ErrTaken)
	}
}

func TestMayProposeAsksWhoLeads(t *testing.T) {
	for _, f := range []int64{1, 2} {
		for view := int64(0); view <= 20; view++ {
			primary := impl.PrimaryOf(f, view).Value
			ledger, start := []impl.Msg(nil), -1
			if view > 0 {
				ledger = append(changesBy(view, firstOnes(2*f+1)...), beginning(view, primary, counting(int(2*f+1))...))
				start = len(ledger) - 1
			}
			for id := int64(1); id <= 3*f+1; id++ {
				want, before := int64(impl.ErrState), int64(impl.ErrState)
				if id == primary {
					want = impl.OK
					if view == 0 {
						before = impl.OK
					}
				}
				checkPropose(t, "in its view", f, ledger, inNew(id, view, start), 1, 1, want)
				checkPropose(t, "not in its view", f, ledger, waiting(id, view), 1, 1, before)
				checkPropose(t, "a wrong slot ahead of that", f, ledger, waiting(id, view), 0, 1, impl.ErrRange)
				checkPropose(t, "a wrong value ahead of that", f, ledger, waiting(id, view), 1, 13, impl.ErrRange)
			}
		}
	}
	// Who may not speak there is told so ahead of all that it said.
	taken := ledgerOf(proposes(1, 2, 3), proposes(0, 2, 3))
	for _, r := range []impl.Replica{waiting(2, 1), inFirst(2)} {
		checkPropose(t, "ErrState ahead of ErrTaken", 1, taken, r, 1, 3, impl.ErrState)
		checkPropose(t, "ErrState ahead of ErrNone", 1, taken, r, 3, 4, impl.ErrState)
		checkPropose(t, "ErrState ahead of ErrForm", 1, taken, r, 2, 0, impl.ErrState)
	}
}

type proposeCase struct {
	name   string
	ledger []impl.Msg
	slot   int64
	value  int64
	want   int64
}

func TestMayProposeOneSlotBehindTheOther(t *testing.T) {
	one := proposes(0, 1, 3)
	cases := []proposeCase{
		{"slot 1, nothing said", nil, 1, 3, impl.OK},
		{"slot 2, nothing said", nil, 2, 3, impl.ErrNone},
		{"slot 30, nothing said", nil, 30, 3, impl.ErrNone},
		{"slot 1 again, as it was", one, 1, 3, impl.ErrTaken},
		{"slot 1 again, another value", one, 1, 4, impl.ErrTaken},
		{"slot 1 again, the value 0", one, 1, 0, impl.ErrTaken},
		{"slot 2 behind 1", one, 2, 4, impl.OK},
		{"slot 2 behind 1, the same value", one, 2, 3, impl.ErrForm},
		{"slot 2 behind 1, the value 0", one, 2, 0, impl.ErrForm},
		{"slot 3 behind 1", one, 3, 4, impl.ErrNone},
		{"slot 3 behind 1, the value 0", one, 3, 0, impl.ErrNone},
		{"slot 3 behind 1, the same value", one, 3, 3, impl.ErrNone},
		{"slot 4 behind 3 alone", msgs(said(1, 0, 1, 3, 5)), 4, 6, impl.OK},
		{"slot 3 without one ahead, taken", msgs(said(1, 0, 1, 3, 5)), 3, 6, impl.ErrTaken},
		{"slot 2 ahead of 3", msgs(said(1, 0, 1, 3, 5)), 2, 6, impl.ErrNone},
		{"slot 1 ahead of 3", msgs(said(1, 0, 1, 3, 5)), 1, 6, impl.OK},
		{"slot 1 ahead of 3, its value", msgs(said(1, 0, 1, 3, 5)), 1, 5, impl.ErrForm},
		{"slot 1, proposed in another View", proposes(4, 1, 3), 1, 3, impl.OK},
		{"slot 1, proposed in another View, another value", proposes(4, 1, 3), 1, 5, impl.OK},
		{"slot 2, the one ahead in another View", proposes(4, 1, 3), 2, 4, impl.ErrNone},
		{"slot 2, the one ahead by another one", proposes(0, 2, 3), 2, 4, impl.ErrNone},
		{"slot 2, the one ahead in another View and by another one", ledgerOf(proposes(4, 1, 3), proposes(0, 2, 3)), 2, 4, impl.ErrNone},
		{"slot 1, proposed by another one", proposes(0, 2, 3), 1, 4, impl.OK},
		{"slot 1, proposed by another one, the same value", proposes(0, 2, 3), 1, 3, impl.OK},
		{"slot 2, its value in another View", ledgerOf(one, msgs(said(1, 4, 1, 7, 5))), 2, 5, impl.OK},
		{"slot 2, its value by another one", ledgerOf(one, msgs(said(1, 0, 3, 7, 5))), 2, 5, impl.OK},
		{"slot 2, its value prepared and committed", ledgerOf(one, msgs(said(2, 0, 1, 7, 5), said(3, 0, 1, 7, 5))), 2, 5, impl.OK},
		{"slot 2, its value behind it", ledgerOf(one, msgs(said(1, 0, 1, 7, 5))), 2, 5, impl.ErrForm},
		{"slot 1, prepared and committed", msgs(said(2, 0, 1, 1, 3), said(3, 0, 1, 1, 3)), 1, 3, impl.OK},
		{"slot 2, the one ahead prepared and committed", msgs(said(2, 0, 1, 1, 3), said(3, 0, 1, 1, 3)), 2, 4, impl.ErrNone},
		{"slot 2, proposed in another View", ledgerOf(proposes(4, 1, 7, 8), one), 2, 8, impl.OK},
		{"slot 2, proposed by another one", ledgerOf(proposes(0, 4, 7, 8), one), 2, 8, impl.OK},
		{"slot 1, proposed twice", ledgerOf(one, proposes(0, 1, 4)), 2, 4, impl.ErrForm},
		{"slot 1, proposed twice, another value", ledgerOf(one, proposes(0, 1, 4)), 2, 5, impl.OK},
		{"slot 2, the one ahead of the value 0", proposes(0, 1, 0), 2, 5, impl.OK},
		{"the last of 240", ledgerOf(manyMsgs(239), msgs(said(1, 0, 1, 29, 3))), 30, 4, impl.OK},
		{"the last of 240, taken", ledgerOf(manyMsgs(239), msgs(said(1, 0, 1, 30, 3))), 30, 4, impl.ErrTaken},
	}
	for _, c := range cases {
		checkPropose(t, c.name, 1, c.ledger, inFirst(1), c.slot, c.value, c.want)
		checkPropose(t, c.name, 2, c.ledger, inFirst(1), c.slot, c.value, c.want)
	}
}

func TestMayProposeWhatIsTakenOver(t *testing.T) {
	for _, f := range []int64{1, 2} {
		begins := takeover(f)
		start := len(begins) - 1
		taken := []int64{0, 5, 0, 0}
		r := inNew(2, 1, start)
		for many := range 5 {
			ledger := ledgerOf(begins, proposes(1, 2, taken[:many]...))
			slot := int64(many) + 1
			for value := int64(0); value <= 12; value++ {
				want := int64(impl.ErrForm)
				if many < 4 && value == taken[many] || many == 4 && value > 0 && value != 5 {
					want = impl.OK
				}
				checkPropose(t, "in the order", f, ledger, r, slot, value, want)
				checkPropose(t, "of who has not begun", f, ledger, waiting(2, 1), slot, value, impl.ErrState)
				checkPropose(t, "of who does not lead", f, ledger, inNew(1, 1, start), slot, value, impl.ErrState)
				if many > 0 {
					checkPropose(t, "the one ahead again", f, ledger, r, slot-1, value, impl.ErrTaken)
				}
				if many < 4 {
					checkPropose(t, "one further on", f, ledger, r, slot+1, value, impl.ErrNone)
				}
			}
			checkPropose(t, "no value", f, ledger, r, slot, 13, impl.ErrRange)
			checkPropose(t, "no value", f, ledger, r, slot, -1, impl.ErrRange)
		}
		all := ledgerOf(begins, proposes(1, 2, taken...))
		checkPropose(t, "behind, a value of another View", f, ledgerOf(all, proposes(0, 2, 7), proposes(8, 2, 7)), r, 5, 7, impl.OK)
		checkPropose(t, "behind, a value of another one", f, ledgerOf(all, proposes(1, 3, 7)), r, 5, 7, impl.OK)
		checkPropose(t, "behind, a value of this View", f, ledgerOf(all, msgs(said(1, 1, 2, 9, 7))), r, 5, 7, impl.ErrForm)
		checkPropose(t, "two behind", f, ledgerOf(all, msgs(said(1, 1, 2, 5, 7))), r, 6, 8, impl.OK)
		checkPropose(t, "two behind, the value of the one ahead", f, ledgerOf(all, msgs(said(1, 1, 2, 5, 7))), r, 6, 7, impl.ErrForm)
		// What is taken over may be proposed, even if it stands in another slot already.
		other := ledgerOf(begins, msgs(said(1, 1, 2, 1, 5)))
		checkPropose(t, "taken over, and said elsewhere", f, other, r, 2, 5, impl.OK)
		// In View 0 nothing is taken over, whoever began another one.
		checkPropose(t, "View 0, the value that View 1 takes over", f, begins, inFirst(1), 1, 0, impl.ErrForm)
		checkPropose(t, "View 0, another value", f, begins, inFirst(1), 1, 7, impl.OK)
	}
}

// Two values that are taken over may be the same: each is one that the view must hold.
func TestMayProposeWhatIsTakenOverTwice(t *testing.T) {
	one, two := cert(1, 0, 5), cert(2, 0, 5)
	begins := ledgerOf(prepared(1, one, two), msgs(changing(1, 1, one, two), changing(1, 2), changing(1, 3), changing(1, 4), beginning(1, 2, 6, 7, 8), beginning(1, 2, 7, 8, 9)))
	first := ledgerOf(begins, proposes(1, 2, 5))
	checkPropose(t, "the second one", 1, first, inNew(2, 1, 10), 2, 5, impl.OK)
	checkPropose(t, "another value", 1, first, inNew(2, 1, 10), 2, 6, impl.ErrForm)
	// By another start of the same View nothing is taken over.
	checkPropose(t, "the other start", 1, first, inNew(2, 1, 11), 2, 5, impl.ErrForm)
	checkPropose(t, "the other start, another value", 1, first, inNew(2, 1, 11), 2, 6, impl.OK)
	checkPropose(t, "the other start, the value 0", 1, first, inNew(2, 1, 11), 2, 0, impl.ErrForm)
	// Up to the last slot that there is.
	last := cert(30, 0, 9)
	begins = ledgerOf(prepared(1, last), msgs(changing(1, 1), changing(1, 2), changing(1, 3, last), beginning(1, 2, 3, 4, 5)))
	ledger := ledgerOf(begins, proposes(1, 2, alike(0, 29)...))
	checkPropose(t, "slot 30", 1, ledger, inNew(2, 1, 6), 30, 9, impl.OK)
	checkPropose(t, "slot 30, the value 0", 1, ledger, inNew(2, 1, 6), 30, 0, impl.ErrForm)
	checkPropose(t, "slot 30, another value", 1, ledger, inNew(2, 1, 6), 30, 8, impl.ErrForm)
	checkPropose(t, "slot 31", 1, ledger, inNew(2, 1, 6), 31, 9, impl.ErrRange)
}

func TestMayPrepareAsksThePlace(t *testing.T) {
	for _, f := range []int64{1, 2} {
		ledger := ledgerOf(proposes(0, 1, 3), oneOfEachKind(0, 2), oneOfEachKind(3, 4), oneOfEachKind(0, 1)[1:], msgs(said(1, 0, 1, 2, 4)))
		last := len(ledger) - 1
		for id := int64(1); id <= 3*f+1; id++ {
			for _, place := range beyond(len(ledger)) {
				checkPrepare(t, "no place", f, ledger, inFirst(id), place, impl.ErrForm)
			}
			for place := 1; place < last; place++ {
				checkPrepare(t, fmt.Sprintf("kind %d", ledger[place].Kind), f, ledger, inFirst(id), place, impl.ErrForm)
			}
			first := int64(impl.OK)
			if id <= 2 {
				first = impl.ErrTaken
			}
			checkPrepare(t, "the first place", f, ledger, inFirst(id), 0, first)
			checkPrepare(t, "the last place", f, ledger, inFirst(id), last, impl.OK)
			checkPrepare(t, "the first place, ahead of the others", f, ledger[:1], inFirst(id), 0, impl.OK)
			checkPrepare(t, "the place behind one", f, ledger[:1], inFirst(id), 1, impl.ErrForm)
			checkPrepare(t, "of who waits for View 1", f, ledger, waiting(id, 1), 0, impl.ErrForm)
			checkPrepare(t, "of who waits for View 3", f, ledger, waiting(id, 3), 6, impl.ErrForm)
		}
	}
	full := ledgerOf(manyMsgs(239), msgs(said(1, 0, 1, 30, 12)))
	checkPrepare(t, "the last of 240", 1, full, inFirst(4), 239, impl.OK)
	checkPrepare(t, "behind the last of 240", 1, full, inFirst(4), 240, impl.ErrForm)
}

func TestMayPrepareAsksWhatIsRight(t *testing.T) {
	for _, f := range []int64{1, 2} {
		begins := takeover(f)
		start := len(begins) - 1
		ledger := append(slices.Clone(begins),
			said(1, 1, 2, 1, 0), said(1, 1, 2, 2, 5), said(1, 1, 2, 2, 6), said(1, 1, 2, 2, 0), said(1, 1, 2, 5, 6), said(1, 1, 2, 5, 0), said(1, 1, 3, 1, 0), said(1, 1, 3, 5, 6),
			said(1, 0, 1, 1, 7), said(1, 0, 1, 1, 0), said(1, 0, 2, 1, 7), said(1, 8, 2, 5, 6), said(1, 2, 3, 5, 6))
		right := map[int]bool{1: true, 2: true, 5: true}
		for i := 1; i <= 13; i++ {
			inOne, inZero := int64(impl.ErrForm), int64(impl.ErrForm)
			if right[i] {
				inOne = impl.OK
			}
			if i == 9 {
				inZero = impl.OK
			}
			for id := int64(1); id <= 3*f+1; id++ {
				checkPrepare(t, fmt.Sprintf("the propose %d", i), f, ledger, inNew(id, 1, start), start+i, inOne)
				checkPrepare(t, fmt.Sprintf("the propose %d of who waits", i), f, ledger, waiting(id, 1), start+i, impl.ErrForm)
				checkPrepare(t, fmt.Sprintf("the propose %d in View 0", i), f, ledger, inFirst(id), start+i, inZero)
			}
		}
	}
	// Two starts of one View that take over other things: each has its own right proposes.
	one := cert(1, 0, 5)
	ledger := ledgerOf(prepared(1, one), msgs(changing(1, 1, one), changing(1, 2), changing(1, 3), changing(1, 4), beginning(1, 2, 3, 4, 5), beginning(1, 2, 4, 5, 6), said(1, 1, 2, 1, 5), said(1, 1, 2, 1, 6)))
	checkPrepare(t, "what is taken over", 1, ledger, inNew(3, 1, 7), 9, impl.OK)
	checkPrepare(t, "another value", 1, ledger, inNew(3, 1, 7), 10, impl.ErrForm)
	checkPrepare(t, "by the other start", 1, ledger, inNew(3, 1, 8), 9, impl.OK)
	checkPrepare(t, "another value by the other start", 1, ledger, inNew(3, 1, 8), 10, impl.OK)
	// The same of the primary of two Views, each with its own start.
	both := ledgerOf(changesBy(1, 1, 2, 3), changesBy(5, 1, 2, 3), msgs(beginning(1, 2, 0, 1, 2), beginning(5, 2, 3, 4, 5), said(1, 1, 2, 1, 3), said(1, 5, 2, 1, 4)))
	for i, view := range []int64{1, 5} {
		checkPrepare(t, "its own View", 1, both, inNew(4, view, 6+i), 8+i, impl.OK)
		checkPrepare(t, "the other View", 1, both, inNew(4, view, 6+i), 9-i, impl.ErrForm)
	}
}

func TestMayPrepareOnce(t *testing.T) {
	for _, f := range []int64{1, 2} {
		begins := ledgerOf(changesBy(1, firstOnes(2*f+1)...), msgs(beginning(1, 2, counting(int(2*f+1))...)))
		start := len(begins) - 1
		views := []struct {
			view    int64
			primary int64
			start   int
		}{{0, 1, -1}, {1, 2, start}}
		for _, v := range views {
			ledger := ledgerOf(begins, msgs(said(1, v.view, v.primary, 2, 4), said(1, v.view, v.primary, 2, 5), said(1, v.view, v.primary, 3, 4)))
			first, again, next := start+1, start+2, start+3
			check := func(name string, behind []impl.Msg, place int, want int64) {
				t.Helper()
				for id := int64(1); id <= 3*f+1; id++ {
					r := inNew(id, v.view, v.start)
					checkPrepare(t, name, f, ledgerOf(ledger, votesBy(id, behind)), r, place, want)
				}
			}
			check("nothing prepared", nil, first, impl.OK)
			check("the same value", prepares(v.view, 2, 4, 1), first, impl.ErrTaken)
			check("another value", prepares(v.view, 2, 5, 1), first, impl.ErrTaken)
			check("the value 0", prepares(v.view, 2, 0, 1), first, impl.ErrTaken)
			check("the other propose of the slot", prepares(v.view, 2, 4, 1), again, impl.ErrTaken)
			check("another slot", prepares(v.view, 2, 4, 1), next, impl.OK)
			check("the slot itself behind another", prepares(v.view, 3, 4, 1), next, impl.ErrTaken)
			check("another View", prepares(1-v.view, 2, 4, 1), first, impl.OK)
			check("a View above", prepares(7, 2, 4, 1), first, impl.OK)
			check("committed alone", commits(v.view, 2, 4, 1), first, impl.OK)
			check("not right, and prepared", prepares(v.view, 2, 4, 1), start, impl.ErrForm)
			for id := int64(1); id <= 3*f+1; id++ {
				others := slices.DeleteFunc(firstOnes(3*f+1), func(o int64) bool { return o == id })
				checkPrepare(t, "by all others", f, ledgerOf(ledger, prepares(v.view, 2, 4, others...)), inNew(id, v.view, v.start), first, impl.OK)
			}
		}
	}
}

// votesBy are messages, all of them from one.
func votesBy(from int64, list []impl.Msg) []impl.Msg {
	var all []impl.Msg
	for _, m := range list {
		m.From = from
		all = append(all, m)
	}
	return all
}

func TestMayCommitAsksSlotAndValue(t *testing.T) {
	for _, f := range []int64{1, 2} {
		ledger := prepared(f, cert(1, 0, 0), cert(1, 0, 12), cert(30, 0, 0), cert(30, 0, 12))
		for _, slot := range []int64{math.MinInt64, -1, 0, 1, 2, 29, 30, 31, 1<<32 + 1, math.MaxInt64} {
			for _, value := range []int64{math.MinInt64, -1, 0, 1, 11, 12, 13, 1 << 32, math.MaxInt64} {
				want, before := int64(impl.ErrSign), int64(impl.ErrState)
				if slot < 1 || slot > 30 || value < 0 || value > 12 {
					want, before = impl.ErrRange, impl.ErrRange
				} else if (slot == 1 || slot == 30) && (value == 0 || value == 12) {
					want = impl.OK
				}
				checkCommit(t, "in View 0", f, ledger, inFirst(3*f+1), slot, value, want)
				checkCommit(t, "of who waits for its view", f, ledger, waiting(2, 1), slot, value, before)
			}
		}
	}
}

func TestMayCommitWhatEnoughHavePrepared(t *testing.T) {
	for _, f := range []int64{1, 2} {
		few, enough, all := firstOnes(2*f), firstOnes(2*f+1), firstOnes(3*f+1)
		begins := ledgerOf(changesBy(1, enough...), msgs(beginning(1, 2, counting(int(2*f+1))...)))
		for view, start := range map[int64]int{0: -1, 1: len(begins) - 1} {
			check := func(name string, want int64, parts ...[]impl.Msg) {
				t.Helper()
				ledger := ledgerOf(begins, ledgerOf(parts...))
				for id := int64(1); id <= 3*f+1; id++ {
					checkCommit(t, name, f, ledger, inNew(id, view, start), 2, 5, want)
				}
				checkCommit(t, name+", of who waits", f, ledger, waiting(2, 1), 2, 5, impl.ErrState)
			}
			check("none", impl.ErrSign)
			check("2f", impl.ErrSign, prepares(view, 2, 5, few...))
			check("2f+1", impl.OK, prepares(view, 2, 5, enough...))
			check("3f+1", impl.OK, prepares(view, 2, 5, all...))
			check("the last 2f", impl.ErrSign, prepares(view, 2, 5, lastOnes(f, 2*f)...))
			check("the last 2f+1", impl.OK, prepares(view, 2, 5, lastOnes(f, 2*f+1)...))
			check("of another View", impl.ErrSign, prepares(1-view, 2, 5, all...), prepares(view+2, 2, 5, all...))
			check("of another slot", impl.ErrSign, prepares(view, 1, 5, all...), prepares(view, 3, 5, all...))
			check("of another value", impl.ErrSign, prepares(view, 2, 4, all...), prepares(view, 2, 6, all...))
			check("of another View and value, with 2f", impl.ErrSign, prepares(1-view, 2, 5, all...), prepares(view, 2, 4, all...), prepares(view, 2, 5, few...))
			check("of two values", impl.OK, prepares(view, 2, 4, all...), prepares(view, 2, 5, enough...))
			check("2f, and a propose and a commit", impl.ErrSign, prepares(view, 2, 5, few...), msgs(said(1, view, 2*f+1, 2, 5), said(3, view, 2*f+1, 2, 5)))
			check("proposes alone", impl.ErrSign, votesOf(1, view, 2, 5, all...))
		}
	}
	checkCommit(t, "the last of 240", 1, ledgerOf(prepares(0, 30, 12, 4, 1), manyMsgs(237), prepares(0, 30, 12, 3)), inFirst(2), 30, 12, impl.OK)
}

func TestMayCommitOnce(t *testing.T) {
	for _, f := range []int64{1, 2} {
		begins := ledgerOf(changesBy(1, firstOnes(2*f+1)...), msgs(beginning(1, 2, counting(int(2*f+1))...)))
		for view, start := range map[int64]int{0: -1, 1: len(begins) - 1} {
			votes := ledgerOf(begins, prepared(f, cert(2, view, 5), cert(2, view, 6)))
			for id := int64(1); id <= 3*f+1; id++ {
				check := func(name string, behind []impl.Msg, slot int64, value int64, want int64) {
					t.Helper()
					checkCommit(t, name, f, ledgerOf(votes, behind), inNew(id, view, start), slot, value, want)
				}
				check("nothing committed", nil, 2, 5, impl.OK)
				check("the same value", commits(view, 2, 5, id), 2, 5, impl.ErrTaken)
				check("another value", commits(view, 2, 5, id), 2, 6, impl.ErrTaken)
				check("a value that none prepared", commits(view, 2, 5, id), 2, 7, impl.ErrSign)
				check("that was committed", commits(view, 2, 7, id), 2, 7, impl.ErrSign)
				check("another one than that", commits(view, 2, 7, id), 2, 5, impl.ErrTaken)
				check("another View", commits(1-view, 2, 5, id), 2, 5, impl.OK)
				check("a View above", commits(view+4, 2, 5, id), 2, 5, impl.OK)
				check("another slot", commits(view, 3, 5, id), 2, 5, impl.OK)
				check("proposed", msgs(said(1, view, id, 2, 5)), 2, 5, impl.OK)
				others := slices.DeleteFunc(firstOnes(3*f+1), func(o int64) bool { return o == id })
				check("by all others", commits(view, 2, 5, others...), 2, 5, impl.OK)
			}
			checkCommit(t, "ErrState ahead of ErrTaken", f, ledgerOf(votes, commits(1, 2, 5, 2)), waiting(2, 1), 2, 5, impl.ErrState)
		}
	}
}

func TestChangeMsgAsksTheView(t *testing.T) {
	far := []int64{math.MinInt64, -2, -1, 21, 22, 1<<32 + 1, math.MaxInt64}
	for _, f := range []int64{1, 2} {
		for view := int64(0); view <= 20; view++ {
			primary := impl.PrimaryOf(f, view).Value
			ledger := ledgerOf(changesBy(max(view, 1), firstOnes(2*f+1)...), msgs(beginning(max(view, 1), impl.PrimaryOf(f, max(view, 1)).Value, counting(int(2*f+1))...)))
			ones := []impl.Replica{waiting(primary, view), waiting(3*f+1, view)}
			if view > 0 {
				ones = append(ones, inNew(primary, view, len(ledger)-1), inNew(1, view, len(ledger)-1))
			}
			for _, r := range ones {
				for next := int64(0); next <= 20; next++ {
					want := noMsg(impl.ErrState)
					if next > view {
						want = msgResult(changing(next, r.Id))
					}
					checkChangeMsg(t, "each view", f, ledger, r, next, want)
				}
				for _, next := range far {
					checkChangeMsg(t, "no view", f, ledger, r, next, noMsg(impl.ErrRange))
				}
			}
		}
	}
}

func TestChangeMsgTellsWhatItCommitted(t *testing.T) {
	several := ledgerOf(commits(0, 7, 1, 1), commits(1, 2, 2, 1), commits(1, 7, 3, 1), commits(0, 9, 4, 1), commits(0, 2, 5, 1))
	cases := []struct {
		name   string
		ledger []impl.Msg
		r      impl.Replica
		view   int64
		want   []impl.Cert
	}{
		{"nothing", nil, inFirst(1), 1, nil},
		{"what others committed", commits(0, 3, 4, 2, 3, 4), inFirst(1), 1, nil},
		{"what it prepared and proposed", ledgerOf(prepares(0, 3, 4, 1, 2, 3), proposes(0, 1, 4)), inFirst(1), 1, nil},
		{"one", commits(0, 3, 4, 1), inFirst(1), 1, certs(cert(3, 0, 4))},
		{"one of the value 0", commits(0, 3, 0, 4), inFirst(4), 20, certs(cert(3, 0, 0))},
		{"several slots", ledgerOf(commits(0, 30, 4, 1), commits(0, 1, 6, 1), commits(0, 2, 5, 1)), inFirst(1), 1, certs(cert(1, 0, 6), cert(2, 0, 5), cert(30, 0, 4))},
		{"several Views", several, waiting(1, 1), 2, certs(cert(2, 1, 2), cert(7, 1, 3), cert(9, 0, 4))},
		{"several Views, of who is in View 0", several, inFirst(1), 2, certs(cert(2, 1, 2), cert(7, 1, 3), cert(9, 0, 4))},
		{"those below view alone", several, inFirst(1), 1, certs(cert(2, 0, 5), cert(7, 0, 1), cert(9, 0, 4))},
		{"those of its View", several, waiting(1, 1), 20, certs(cert(2, 1, 2), cert(7, 1, 3), cert(9, 0, 4))},
		{"one slot in three Views", ledgerOf(commits(0, 3, 4, 2), commits(5, 3, 6, 2), commits(2, 3, 5, 2)), waiting(2, 5), 6, certs(cert(3, 5, 6))},
		{"one slot in three Views, view between", ledgerOf(commits(0, 3, 4, 2), commits(5, 3, 6, 2), commits(2, 3, 5, 2)), waiting(2, 1), 3, certs(cert(3, 2, 5))},
		{"one slot in one View twice", ledgerOf(commits(1, 3, 5, 1), commits(1, 3, 4, 1)), waiting(1, 1), 2, certs(cert(3, 1, 5))},
		{"what another change of it told", msgs(changing(1, 1, cert(3, 0, 4))), waiting(1, 1), 2, nil},
		{"from one that began", led(), inNew(3, 1, 7), 2, certs(cert(1, 1, 0))},
		{"from one that began, of the View ahead", led(), inNew(1, 1, 7), 2, certs(cert(2, 0, 5))},
	}
	for _, c := range cases {
		checkChangeMsg(t, c.name, 1, c.ledger, c.r, c.view, msgResult(changing(c.view, c.r.Id, c.want...)))
	}
	for id := int64(1); id <= 4; id++ {
		want := certs()
		for slot := int64(1); slot <= 30; slot++ {
			if slot%21 < 20 {
				want = append(want, cert(slot, slot%21, valueAt(slot)))
			}
		}
		checkChangeMsg(t, "fullLedger", 1, fullLedger(), waiting(id, 19), 20, msgResult(changing(20, id, want...)))
	}
	thirty := func() []impl.Msg {
		var list []impl.Msg
		for _, c := range certsUpTo(30) {
			list = append(list, commits(c.View, c.Slot, c.Value, 7)...)
		}
		return list
	}()
	checkChangeMsg(t, "all slots", 2, thirty, inFirst(7), 1, msgResult(changing(1, 7, certsUpTo(30)...)))
}

func TestNewMsgAsksWhoLeads(t *testing.T) {
	for _, f := range []int64{1, 2} {
		need := int(2*f + 1)
		for view := int64(0); view <= 20; view++ {
			primary := impl.PrimaryOf(f, view).Value
			changes := changesBy(view, firstOnes(3*f+1)...)
			begins := append(slices.Clone(changes), beginning(view, primary, counting(need)...))
			for id := int64(1); id <= 3*f+1; id++ {
				want := noMsg(impl.ErrState)
				if id == primary && view > 0 {
					want = msgResult(beginning(view, id, counting(need)...))
				}
				checkNewMsg(t, "enough", f, changes, waiting(id, view), want)
				// That it told so already is not asked; that it began is.
				checkNewMsg(t, "told already", f, begins, waiting(id, view), want)
				if view > 0 {
					checkNewMsg(t, "begun", f, begins, inNew(id, view, len(begins)-1), noMsg(impl.ErrState))
				}
				want = noMsg(impl.ErrState)
				if id == primary && view > 0 {
					want = noMsg(impl.ErrSign)
				}
				checkNewMsg(t, "none", f, nil, waiting(id, view), want)
			}
		}
	}
}

func TestNewMsgCountsChanges(t *testing.T) {
	for _, f := range []int64{1, 2} {
		need := int(2*f + 1)
		for many := int64(0); many <= 3*f+1; many++ {
			want := noMsg(impl.ErrSign)
			if many >= int64(need) {
				want = msgResult(beginning(1, 2, counting(need)...))
			}
			checkNewMsg(t, fmt.Sprintf("the first %d", many), f, changesBy(1, firstOnes(many)...), waiting(2, 1), want)
			checkNewMsg(t, fmt.Sprintf("the last %d", many), f, changesBy(1, lastOnes(f, many)...), waiting(2, 1), want)
		}
	}
	c, wrong := cert(2, 0, 5), cert(2, 0, 6)
	votes := prepared(1, c)
	cases := []struct {
		name   string
		ledger []impl.Msg
		want   impl.MsgResult
	}{
		{"with Certs that are right", ledgerOf(votes, msgs(changing(1, 1, c), changing(1, 3), changing(1, 4, c))), msgResult(beginning(1, 2, 3, 4, 5))},
		{"one that is not right of three", ledgerOf(votes, msgs(changing(1, 1, c), changing(1, 3), changing(1, 4, wrong))), noMsg(impl.ErrSign)},
		{"one that is not right of four", ledgerOf(votes, msgs(changing(1, 1, wrong), changing(1, 3), changing(1, 4), changing(1, 2))), msgResult(beginning(1, 2, 4, 5, 6))},
		{"of one twice", ledgerOf(votes, msgs(changing(1, 1, c), changing(1, 1), changing(1, 3))), noMsg(impl.ErrSign)},
		{"of one twice, and another", ledgerOf(votes, msgs(changing(1, 1, c), changing(1, 1), changing(1, 3), changing(1, 4))), msgResult(beginning(1, 2, 3, 5, 6))},
		{"of another View", ledgerOf(changesBy(2, 1, 2, 3, 4), changesBy(1, 1, 2)), noMsg(impl.ErrSign)},
		{"of another View between", msgs(changing(1, 1), changing(2, 2), changing(1, 2), changing(2, 3), changing(1, 3)), msgResult(beginning(1, 2, 0, 2, 4))},
		{"without its own", changesBy(1, 1, 3, 4), msgResult(beginning(1, 2, 0, 1, 2))},
		{"other kinds between", ledgerOf(oneOfEachKind(1, 1), oneOfEachKind(1, 3), oneOfEachKind(1, 4)), msgResult(beginning(1, 2, 3, 8, 13))},
	}
	for _, c := range cases {
		checkNewMsg(t, c.name, 1, c.ledger, waiting(2, 1), c.want)
	}
	full := ledgerOf(changesBy(20, 1), manyMsgs(237), changesBy(20, 3, 4))
	checkNewMsg(t, "the last of 240", 1, full, waiting(1, 20), msgResult(beginning(20, 1, 0, 238, 239)))
}

func TestReplicasAreWhatTheModelTells(t *testing.T) {
	t.Parallel()
	r := rand.New(rand.NewPCG(67, 1))
	codes := map[string]map[int64]int{"fault": {}, "propose": {}, "prepare": {}, "commit": {}, "change": {}, "begin": {}}
	told := map[string]int{}
	count := func(what string, is bool) {
		if is {
			told[what]++
		}
	}
	for range 5000 {
		c := drawnReplicaCall(r)
		got, want := programReplica(c), modelReplica(c)
		if !sameReplicas(got, want) {
			t.Fatalf("of %+v:\n%+v, want\n%+v", c, got, want)
		}
		for what, code := range map[string]int64{"fault": got.fault, "propose": got.propose, "prepare": got.prepare, "commit": got.commit, "change": got.change.Code, "begin": got.begin.Code} {
			codes[what][code]++
		}
		begun := got.fault == impl.OK && c.r.Start >= 0
		taken := false
		if begun {
			_, taken = modelHeld(c.ledger, c.r, c.next.Slot)
		}
		count("a propose behind a new", begun && got.propose == impl.OK)
		count("a propose of what is taken over", taken && got.propose == impl.OK)
		count("a prepare behind a new", begun && got.prepare == impl.OK)
		count("a commit behind a new", begun && got.commit == impl.OK)
		count("a change behind a new", begun && got.change.Code == impl.OK)
		count("a change with Certs", len(got.change.Msg.Certs) > 0)
		count("a change with several Certs", len(got.change.Msg.Certs) > 1)
		count("one that has done something", got.fault == impl.OK && c.r.Done > 0)
	}
	ofLedger := []int64{impl.ErrForm, impl.ErrMany, impl.ErrRange, impl.ErrNone, impl.ErrTaken}
	for what, all := range codes {
		for _, code := range append(ofLedger, impl.OK, impl.ErrState) {
			if all[code] < 5 {
				t.Errorf("%s: the code %d was told only %d times", what, code, all[code])
			}
		}
		if all[impl.OK] < 200 {
			t.Errorf("%s: OK was told only %d times", what, all[impl.OK])
		}
	}
	if codes["commit"][impl.ErrSign] < 200 || codes["begin"][impl.ErrSign] < 200 {
		t.Errorf("told: %v", codes)
	}
	for _, what := range []string{"a propose behind a new", "a propose of what is taken over", "a prepare behind a new", "a commit behind a new", "a change behind a new", "a change with Certs", "a change with several Certs", "one that has done something"} {
		if told[what] < 100 {
			t.Errorf("%s: only %d times", what, told[what])
		}
	}
}

// hasSaid tells whether a replica sent one of a kind and slot in its View.
func hasSaid(ledger []impl.Msg, r impl.Replica, kind int64, slot int64) bool {
	return slices.ContainsFunc(ledger, func(m impl.Msg) bool {
		return m.Kind == kind && m.From == r.Id && m.View == r.View && m.Slot == slot
	})
}

// Promise 12: what may be prepared was proposed by the primary, rightly, and is not prepared yet; and all of that may be.
func TestPreparedWasProposedRightly(t *testing.T) {
	t.Parallel()
	r := rand.New(rand.NewPCG(68, 68))
	codes := map[int64]int{}
	for range 500 {
		c := drawnFineReplica(r)
		for place, m := range c.ledger {
			if m.Kind != impl.MsgPropose && r.IntN(8) > 0 {
				continue
			}
			got := impl.MayPrepare(c.f, c.ledger, c.r, int64(place))
			codes[got]++
			proposed := m.Kind == impl.MsgPropose && m.View == c.r.View && m.From == impl.PrimaryOf(c.f, c.r.View).Value && impl.ProposeRight(c.f, c.ledger, int64(place), c.r.Start)
			want := int64(impl.OK)
			if !proposed {
				want = impl.ErrForm
			} else if hasSaid(c.ledger, c.r, impl.MsgPrepare, m.Slot) {
				want = impl.ErrTaken
			}
			if got != want {
				t.Fatalf("f %d: %+v: MayPrepare %d of %+v: %d, want %d", c.f, c.r, place, c.ledger, got, want)
			}
			if put := impl.PutMsg(c.f, c.ledger, said(2, c.r.View, c.r.Id, m.Slot, m.Value)); got == impl.OK && put.Code == impl.OK {
				if again := impl.MayPrepare(c.f, put.Ledger, c.r, int64(place)); again != impl.ErrTaken {
					t.Fatalf("f %d: %+v: MayPrepare %d of %+v again: %d", c.f, c.r, place, put.Ledger, again)
				}
			}
		}
	}
	if codes[impl.OK] < 300 || codes[impl.ErrForm] < 300 || codes[impl.ErrTaken] < 100 {
		t.Errorf("told: %v", codes)
	}
}

// Promise 12: what may be committed enough have prepared, in the View of who commits it, which it is in and committed nothing else in.
func TestCommittedWasPreparedByEnough(t *testing.T) {
	r := rand.New(rand.NewPCG(69, 69))
	codes := map[int64]int{}
	for range 500 {
		c := drawnFineReplica(r)
		asks := certs(c.done, c.next)
		for _, m := range c.ledger {
			if m.Kind == impl.MsgPrepare && r.IntN(6) == 0 {
				asks = append(asks, cert(m.Slot, 0, m.Value))
			}
		}
		for _, ask := range asks {
			ask.View = c.r.View
			got := impl.MayCommit(c.f, c.ledger, c.r, ask.Slot, ask.Value)
			codes[got]++
			voters := impl.VotesFor(c.f, c.ledger, said(2, ask.View, 1, ask.Slot, ask.Value))
			right := impl.CertRight(c.f, c.ledger, ask)
			if right != (int64(len(voters.List)) >= 2*c.f+1) {
				t.Fatalf("f %d: CertRight of %+v: %v, and the voters are %+v", c.f, ask, right, voters)
			}
			want := int64(impl.OK)
			switch {
			case c.r.View > 0 && c.r.Start == -1:
				want = impl.ErrState
			case !right:
				want = impl.ErrSign
			case hasSaid(c.ledger, c.r, impl.MsgCommit, ask.Slot):
				want = impl.ErrTaken
			}
			if got != want {
				t.Fatalf("f %d: %+v: MayCommit %+v of %+v: %d, want %d", c.f, c.r, ask, c.ledger, got, want)
			}
			if put := impl.PutMsg(c.f, c.ledger, said(3, c.r.View, c.r.Id, ask.Slot, ask.Value)); got == impl.OK && put.Code == impl.OK {
				if again := impl.MayCommit(c.f, put.Ledger, c.r, ask.Slot, ask.Value); again != impl.ErrTaken {
					t.Fatalf("f %d: %+v: MayCommit %+v of %+v again: %d", c.f, c.r, ask, put.Ledger, again)
				}
			}
		}
	}
	for _, code := range []int64{impl.OK, impl.ErrState, impl.ErrSign, impl.ErrTaken} {
		if codes[code] < 100 {
			t.Errorf("told: %v", codes)
		}
	}
}

// Promise 12: who leaves a view tells all that it committed ahead of the next, each slot by its newest, and nothing else.
func TestWhoLeavesTellsAllThatItCommitted(t *testing.T) {
	t.Parallel()
	r := rand.New(rand.NewPCG(70, 70))
	told, rivals := 0, 0
	for range 2000 {
		c := drawnFineReplica(r)
		got := impl.ChangeMsg(c.f, c.ledger, c.r, c.view)
		if (got.Code == impl.OK) != (c.view > c.r.View) {
			t.Fatalf("f %d: %+v: ChangeMsg %d: %+v", c.f, c.r, c.view, got)
		}
		if got.Code != impl.OK {
			continue
		}
		m := got.Msg
		if m.Kind != impl.MsgChange || m.View != c.view || m.From != c.r.Id || impl.MsgFault(c.f, m) != impl.OK || !slices.Equal(m.Certs, impl.CertsOf(c.f, c.ledger, c.r.Id, c.view).Certs) {
			t.Fatalf("f %d: %+v: ChangeMsg %d of %+v: %+v", c.f, c.r, c.view, c.ledger, m)
		}
		for _, said := range c.ledger {
			if said.Kind != impl.MsgCommit || said.From != c.r.Id || said.View >= c.view {
				continue
			}
			at := slices.IndexFunc(m.Certs, func(c impl.Cert) bool { return c.Slot == said.Slot })
			if at < 0 || m.Certs[at].View < said.View {
				t.Fatalf("f %d: %+v: ChangeMsg %d of %+v: %+v leaves out %+v", c.f, c.r, c.view, c.ledger, m, said)
			}
			if m.Certs[at].View > said.View {
				rivals++
			}
		}
		for _, one := range m.Certs {
			told++
			if !slices.ContainsFunc(c.ledger, func(o impl.Msg) bool { return equalMsgs(o, said(3, one.View, c.r.Id, one.Slot, one.Value)) }) {
				t.Fatalf("f %d: %+v: ChangeMsg %d of %+v: it did not commit %+v", c.f, c.r, c.view, c.ledger, one)
			}
		}
	}
	if told < 1000 || rivals < 100 {
		t.Errorf("only %d were told, %d ahead of newer ones", told, rivals)
	}
}

// What NewMsg tells is right as soon as it stands in the ledger, and who told it may begin there.
func TestWhatBeginsAViewIsRight(t *testing.T) {
	t.Parallel()
	r := rand.New(rand.NewPCG(71, 71))
	begins := 0
	for range 2500 {
		c := drawnFineReplica(r)
		c.r.Start = -1
		got := impl.NewMsg(c.f, c.ledger, c.r)
		leads := c.r.View > 0 && impl.PrimaryOf(c.f, c.r.View).Value == c.r.Id
		changes := impl.ChangesFor(c.f, c.ledger, c.r.View).List
		if want := leads && int64(len(changes)) == 2*c.f+1; (got.Code == impl.OK) != want {
			t.Fatalf("f %d: %+v: NewMsg of %+v: %+v", c.f, c.r, c.ledger, got)
		}
		if got.Code != impl.OK {
			continue
		}
		if impl.MsgFault(c.f, got.Msg) != impl.OK || !equalMsgs(got.Msg, beginning(c.r.View, c.r.Id, changes...)) {
			t.Fatalf("f %d: %+v: NewMsg of %+v: %+v", c.f, c.r, c.ledger, got)
		}
		put := impl.PutMsg(c.f, c.ledger, got.Msg)
		if put.Code != impl.OK {
			if put.Code != impl.ErrMany || len(c.ledger) != 240 {
				t.Fatalf("f %d: PutMsg %+v: the code %d", c.f, got.Msg, put.Code)
			}
			continue
		}
		begins++
		at := slices.IndexFunc(put.Ledger, func(m impl.Msg) bool { return equalMsgs(m, got.Msg) })
		c.r.Start = int64(at)
		if !impl.NewRight(c.f, put.Ledger, int64(at)) || impl.ReplicaFault(c.f, put.Ledger, c.r) != impl.OK {
			t.Fatalf("f %d: %+v: %+v at %d of %+v is not right", c.f, c.r, got.Msg, at, put.Ledger)
		}
		if again := impl.NewMsg(c.f, put.Ledger, c.r); again.Code != impl.ErrState {
			t.Fatalf("f %d: %+v: NewMsg again: %+v", c.f, c.r, again)
		}
	}
	if begins < 300 {
		t.Errorf("only %d began", begins)
	}
}

// run is a ledger that replicas fill by asking ahead of all they say; those that are bad say what they like.
type run struct {
	t      *testing.T
	r      *rand.Rand
	f      int64
	bad    int64
	ledger []impl.Msg
	ones   []impl.Replica
	told   map[int64]int
}

// say puts what one that is not bad says, which must have no fault and be the one thing that it says of a slot in a view.
func (n *run) say(m impl.Msg) {
	if m.Slot > 0 && hasSaid(n.ledger, waiting(m.From, m.View), m.Kind, m.Slot) {
		n.t.Fatalf("f %d: %+v is the second of its slot in %+v", n.f, m, n.ledger)
	}
	put := impl.PutMsg(n.f, n.ledger, m)
	if put.Code != impl.OK && put.Code != impl.ErrMany {
		n.t.Fatalf("f %d: PutMsg %+v to %+v: the code %d", n.f, m, n.ledger, put.Code)
	}
	if put.Code == impl.OK {
		n.ledger = put.Ledger
		n.told[m.Kind]++
	}
}

func (n *run) placeOf(m impl.Msg) int64 {
	return int64(slices.IndexFunc(n.ledger, func(o impl.Msg) bool { return equalMsgs(m, o) }))
}

// voteOf asks one of the replicas for one of the things that it may say of a slot.
func (n *run) voteOf(one *impl.Replica) {
	for slot := int64(1); slot <= 4; slot++ {
		value := n.r.Int64N(4)
		if impl.MayPropose(n.f, n.ledger, *one, slot, value) == impl.OK {
			n.say(said(1, one.View, one.Id, slot, value))
		}
	}
	for place, m := range n.ledger {
		if n.r.IntN(4) > 0 && impl.MayPrepare(n.f, n.ledger, *one, int64(place)) == impl.OK {
			n.say(said(2, one.View, one.Id, m.Slot, m.Value))
		}
		if m.Kind == impl.MsgPrepare && n.r.IntN(4) > 0 && impl.MayCommit(n.f, n.ledger, *one, m.Slot, m.Value) == impl.OK {
			n.say(said(3, one.View, one.Id, m.Slot, m.Value))
		}
	}
}

// beginOf lets one of the replicas begin the view that it waits for, as its primary or behind that.
func (n *run) beginOf(one *impl.Replica) {
	if told := impl.NewMsg(n.f, n.ledger, *one); told.Code == impl.OK {
		n.say(told.Msg)
	}
	for place, m := range n.ledger {
		if one.Start == -1 && m.Kind == impl.MsgNew && m.View == one.View && impl.NewRight(n.f, n.ledger, int64(place)) {
			one.Start = int64(place)
		}
	}
}

// leaveOf lets one of the replicas leave its view for another, if it may and there is room to tell so.
func (n *run) leaveOf(one *impl.Replica, view int64) {
	told := impl.ChangeMsg(n.f, n.ledger, *one, view)
	if told.Code != impl.OK || len(n.ledger) == 240 {
		return
	}
	n.say(told.Msg)
	if !impl.ChangeRight(n.f, n.ledger, n.placeOf(told.Msg)) {
		n.t.Fatalf("f %d: %+v of %+v is not right", n.f, told.Msg, n.ledger)
	}
	one.View, one.Start = view, -1
}

// lie lets those that are bad say something near to what the others say.
func (n *run) lie() {
	for id := range n.bad {
		m := drawnMsg(n.r, n.f, len(n.ledger))
		m.From = modelReplicas[n.f] - id
		if m.Kind <= impl.MsgCommit {
			m.View, m.Slot, m.Value = n.r.Int64N(3), 1+n.r.Int64N(4), n.r.Int64N(4)
		}
		if put := impl.PutMsg(n.f, n.ledger, m); put.Code == impl.OK {
			n.ledger = put.Ledger
		}
	}
}

// Promise 12, in runs of whole clusters: who asks ahead of all that it says never says two things of one slot in one view, what it tells when it leaves is right, and no slot is decided twice.
func TestWhoAsksKeepsToWhatItSaid(t *testing.T) {
	t.Parallel()
	r := rand.New(rand.NewPCG(72, 72))
	told := map[int64]int{}
	decided, later := 0, 0
	for range 80 {
		n := run{t: t, r: r, f: 1 + r.Int64N(2), told: told}
		n.bad = r.Int64N(n.f + 1)
		for id := range modelReplicas[n.f] - n.bad {
			n.ones = append(n.ones, inFirst(id+1))
		}
		view := int64(0)
		for range 9 {
			for _, at := range r.Perm(len(n.ones)) {
				n.beginOf(&n.ones[at])
				n.voteOf(&n.ones[at])
				if r.IntN(4) > 0 {
					n.leaveOf(&n.ones[at], view)
				}
			}
			n.lie()
			view += r.Int64N(3) / 2
		}
		for slot := int64(1); slot <= 4; slot++ {
			values := impl.DecidedAt(n.f, n.ledger, slot)
			if values.Code != impl.OK || len(values.List) > 1 {
				t.Fatalf("f %d: slot %d of %+v: %+v", n.f, slot, n.ledger, values)
			}
			decided += len(values.List)
		}
		for _, m := range n.ledger {
			if m.Kind == impl.MsgCommit && m.View > 0 && m.From <= int64(len(n.ones)) {
				later++
			}
		}
	}
	for kind := int64(1); kind <= 5; kind++ {
		if told[kind] < 30 {
			t.Errorf("said: %v", told)
		}
	}
	if decided < 30 || later < 30 {
		t.Errorf("only %d slots were decided, %d commits were of later views", decided, later)
	}
}

// answersOf asks all functions, none of which may let a panic out.
func answersOf[C any, A any](t *testing.T, ask func(C) A, c C) A {
	t.Helper()
	defer func() {
		if why := recover(); why != nil {
			t.Fatalf("of %.300s: the panic %v", fmt.Sprint(c), why)
		}
	}()
	return ask(c)
}

// Promise 1: every argument has an answer, however long a list is or how odd its numbers are; no panic leaves the package.
func TestEveryReplicaIsAnswered(t *testing.T) {
	far := []int64{math.MinInt64, -2, -1, 0, 1, 2, 3, 4, 5, 7, 8, 20, 21, 30, 31, 239, 240, math.MaxInt64}
	for i, f := range far {
		for j, n := range far {
			for k, other := range far {
				odd := said(far[(i+j)%len(far)], n, other, far[(i+k)%len(far)], far[(j+k)%len(far)])
				list := odd
				list.Certs, list.Refs = make([]impl.Cert, 1<<9), []int64{n, other, math.MaxInt64}
				ledgers := [][]impl.Msg{nil, {}, led(), {odd}, {list}, append(led(), odd), slices.Repeat(msgs(odd), 1<<9), takeover(2), starts()}
				c := replicaCall{f: f, ledger: ledgers[(i+j+k)%len(ledgers)], r: impl.Replica{Id: n, View: other, Start: n, Done: other}, next: cert(n, 0, other), place: other, done: cert(other, 0, n), view: n}
				if k%2 == 0 {
					c.f, c.r = 1+int64(i)%2, impl.Replica{Id: 1 + int64(i)%4, View: int64(j) % 3, Start: []int64{-1, 7, n}[i%3], Done: int64(k) % 3 / 2}
				}
				if got, want := answersOf(t, programReplica, c), modelReplica(c); !sameReplicas(got, want) {
					t.Fatalf("of %.300s: %+v, want %+v", fmt.Sprint(c), got, want)
				}
			}
		}
	}
}

// Promise 1: an answer hangs on the arguments alone, so it is the same in whatever order it is asked.
func TestReplicaAnswersHangOnArgumentsAlone(t *testing.T) {
	r := rand.New(rand.NewPCG(73, 73))
	checkAgain(t, drawnMany(r, 300, drawnReplicaCall), programReplica, sameReplicas)
}

// drawnOwnReplicaCall draws a call of which nothing lies where anything else does.
func drawnOwnReplicaCall(r *rand.Rand) replicaCall {
	c := drawnReplicaCall(r)
	c.ledger = ownLedger(c.ledger)
	return c
}

// sharesWithLedger tells whether a list of a message lies where anything that was handed in does.
func sharesWithLedger(m impl.Msg, ledger []impl.Msg) bool {
	return sharesRoom(m.Certs, ledger) || sharesRoom(m.Refs, ledger) || sharedLists(msgs(m), ledger)
}

// Promise 1: what is answered shares no memory with what is handed in, nor one answer with another.
func TestReplicaAnswersAreNewMemory(t *testing.T) {
	t.Parallel()
	r := rand.New(rand.NewPCG(74, 74))
	told := 0
	for range 1200 {
		c := drawnOwnReplicaCall(r)
		first, second := programReplica(c), programReplica(c)
		answers := msgs(first.change.Msg, first.begin.Msg, second.change.Msg, second.begin.Msg)
		for _, m := range answers {
			if sharesWithLedger(m, c.ledger) {
				t.Fatalf("of %+v: %+v shares memory with it", c, m)
			}
		}
		if !listsApart(answers) {
			t.Fatalf("of %+v: two of %+v share memory", c, answers)
		}
		told += len(first.change.Msg.Certs) + len(first.begin.Msg.Refs)
		want := modelReplica(c)
		want.change.Msg, want.begin.Msg = ownMsg(want.change.Msg), ownMsg(want.begin.Msg)
		wipeLedger(answers[:2])
		if !sameReplicas(second, want) || !sameReplicas(programReplica(c), want) {
			t.Fatalf("of %+v: who writes into an answer turns another", c)
		}
		wipeLedger(c.ledger)
		if !sameReplicas(second, want) {
			t.Fatalf("the answer turned with what was handed in: %+v, want %+v", second, want)
		}
	}
	if told < 1000 {
		t.Errorf("only %d were told", told)
	}
}

// Promise 1: no call changes the ledger or its Certs and Refs, nor what lies behind them.
func TestReplicaArgumentsStayAsTheyAre(t *testing.T) {
	r := rand.New(rand.NewPCG(75, 75))
	for range 1200 {
		c := drawnOwnReplicaCall(r)
		old := ownLedger(wholeLedger(c.ledger))
		programReplica(c)
		if !sameLedgers(wholeLedger(c.ledger), old) {
			t.Fatalf("changed: %+v", c)
		}
	}
}
