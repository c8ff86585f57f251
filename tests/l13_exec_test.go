package tests

import (
	"fmt"
	"math"
	"math/rand/v2"
	"slices"
	"testing"
	"unsafe"

	"loop.example/g00369/impl"
)

// decidedAs is a ledger in which enough committed each of the values, slot by slot; a slot of which the value is open has one commit too few.
func decidedAs(f int64, values ...int64) []impl.Msg {
	var ledger []impl.Msg
	for at, value := range values {
		voters := firstOnes(2*f + 1)
		if value == open {
			voters, value = voters[1:], 1
		}
		ledger = append(ledger, commits(0, int64(at)+1, value, voters...)...)
	}
	return ledger
}

// open stands for the value of a slot that is not decided.
const open = -1

// doneBy is a cluster whose replicas have all done so many slots.
func doneBy(c impl.Cluster, done int64) impl.Cluster {
	c.Replicas = slices.Clone(c.Replicas)
	for i := range c.Replicas {
		c.Replicas[i].Done = done
	}
	return c
}

// built are requests that need each other: client 1 opens, makes /a, sets it, and reads it.
func built() []impl.Request {
	return []impl.Request{asked(1, 1, 0, opOpen), asked(1, 2, 1, create("/a", 5)), asked(1, 3, 2, setOf("/a", 7, 0)), asked(1, 4, 3, getOf("/a"))}
}

func checkExec(t *testing.T, name string, c execCall, want execAnswers) {
	t.Helper()
	if got := programExec(c); !sameExec(got, want) {
		t.Errorf("%s, by %d of %.300s: %+v, want %+v", name, c.id, fmt.Sprint(c.c), got, want)
	}
}

// checkNobodyDoes asks all functions of a cluster with a fault: they tell that alone, whoever is told.
func checkNobodyDoes(t *testing.T, name string, c impl.Cluster, fault int64) {
	t.Helper()
	want := noneOfOne(fault)
	want.waiting.Code = fault
	for _, id := range []int64{0, 1, 4, 8} {
		checkExec(t, name, execCall{c, id, 0, 100}, want)
	}
	checkExec(t, name, execCall{c, 2, 1, 1}, want)
}

// Who is told by an Id is asked ahead of all else: of what it has done, what there is to do, and who asks.
func TestExecAsksWhoItIs(t *testing.T) {
	for _, f := range []int64{1, 2} {
		last := 3*f + 1
		for _, bad := range [][]int64{nil, {1}, {2}, {last}} {
			fine := clusterOf(f, 3, decidedAs(f, 1, 0, 2), bad...)
			// Nothing is left to do; the next one is beyond all requests; one that is done is.
			clusters := []impl.Cluster{fine, doneBy(fine, 3), clusterOf(f, 0, decidedAs(f, 12), bad...), doneBy(clusterOf(f, 0, decidedAs(f, 12), bad...), 1), clusterOf(f, 0, nil, bad...)}
			for _, c := range clusters {
				waits := impl.WaitingC(c)
				for _, id := range append([]int64{math.MinInt64, -1, 0, last + 1, last + 2, 8, 1<<32 + 1, math.MaxInt64}, bad...) {
					want := noneOfOne(impl.ErrNone)
					want.waiting = waits
					for _, number := range []int64{-1, 0, 1, 99, 100} {
						checkExec(t, "nobody", execCall{c, id, 1, number}, want)
						checkExec(t, "nobody", execCall{c, id, number, 1}, want)
					}
				}
			}
			for _, one := range fine.Replicas {
				want := execAnswers{clusterResult(standing(fine, withDone(one, 1))), placesOf(), impl.NewState(0), noReply(impl.ErrNone), impl.IntResult{Value: 3}, placesOf(3)}
				checkExec(t, "somebody", execCall{fine, one.Id, 1, 1}, want)
			}
		}
	}
}

// longLog has a value for each of many slots, nothing in every third one.
func longLog(many int) []int64 {
	var values []int64
	for slot := range int64(many) {
		values = append(values, (slot+1)%3*(slot%6+1)%13)
	}
	return values
}

// Done of 0, of one below what the log tells, and of as many, of logs of no slots up to all of them.
func TestDoneCUpToTheEnd(t *testing.T) {
	for _, f := range []int64{1, 2} {
		for _, many := range []int{0, 1, 2, 3, 15, 29, 30} {
			log := longLog(many)
			c := clusterOf(f, 12, decidedAs(f, log...), 3*f+1)
			checkCluster(t, "a long log", c, impl.OK)
			for done := range int64(many) + 1 {
				before := standing(c, withDone(inFirst(2), done))
				want := clusterResult(standing(c, withDone(inFirst(2), done+1)))
				if done == int64(many) {
					want = noCluster(impl.ErrState)
				}
				checkTold(t, fmt.Sprintf("%d of %d", done, many), impl.DoneC(before, 2), want)
				if got := impl.ValuesC(before, 2); !sameInts(got, placesOf(log[:done]...)) {
					t.Errorf("%d of %v: the values %+v", done, log, got)
				}
				if got := impl.LagC(before, 2); got != (impl.IntResult{Value: int64(many) - done}) {
					t.Errorf("%d of %d: the lag %+v", done, many, got)
				}
				// What another one has done is all one to it.
				if got := impl.LagC(before, 1); got != (impl.IntResult{Value: int64(many)}) {
					t.Errorf("none of %d: the lag %+v", many, got)
				}
			}
		}
	}
}

// A slot that is decided behind one that is not is not in the log: nobody does it, and its value waits.
func TestExecEndsAtAGap(t *testing.T) {
	cases := []struct {
		name   string
		values []int64
		log    int64
		waits  []int64
	}{
		{"the first slot", []int64{open, 2}, 0, []int64{1, 2, 3, 4}},
		{"the second slot", []int64{3, open, 2}, 1, []int64{1, 2, 4}},
		{"the second slot, the same behind it", []int64{3, open, 3}, 1, []int64{1, 2, 4}},
		{"two slots", []int64{3, 1, open, open, 2, 4}, 2, []int64{2, 4}},
		{"each second slot", []int64{4, open, 3, open, 2, open, 1}, 1, []int64{1, 2, 3}},
		{"the last slot", []int64{3, 1, 4, open}, 3, []int64{2}},
		{"behind nothing", []int64{0, 0, open, 1}, 2, []int64{1, 2, 3, 4}},
		{"nothing behind it", []int64{1, 2, open, 0}, 2, []int64{3, 4}},
		{"what is beyond the requests behind it", []int64{1, 2, open, 9}, 2, []int64{3, 4}},
	}
	for _, f := range []int64{1, 2} {
		for _, g := range cases {
			c := doneBy(clusterOf(f, 4, decidedAs(f, g.values...), 3*f+1), g.log)
			checkCluster(t, g.name, c, impl.OK)
			for _, one := range c.Replicas {
				want := execAnswers{noCluster(impl.ErrState), placesOf(g.values[:g.log]...), modelState(modelBook(c)[g.log]), noReply(impl.ErrNone), impl.IntResult{}, placesOf(g.waits...)}
				checkExec(t, g.name, execCall{c, one.Id, 9, 9}, want)
				for done := range g.log {
					if got := impl.LagC(standing(c, withDone(one, done)), one.Id); got != (impl.IntResult{Value: g.log - done}) {
						t.Errorf("%s: the lag at %d is %+v, of a log of %d", g.name, done, got, g.log)
					}
				}
			}
			// What closes the gap brings on what is behind it.
			for at, value := range g.values {
				if value == open {
					c = saying(c, said(3, 0, 1, int64(at)+1, 1))
				}
			}
			if got, want := impl.LagC(c, 2), int64(len(g.values))-g.log; got != (impl.IntResult{Value: want}) {
				t.Errorf("%s is closed: the lag is %+v, want %d", g.name, got, want)
			}
		}
	}
}

// A slot that holds nothing is done like the others, and told; it is no request.
func TestExecOfNothing(t *testing.T) {
	logs := [][]int64{{0}, {0, 0, 0}, {0, 1, 2, 3, 4}, {0, 0, 1, 2, 3, 4}, {1, 2, 0, 3, 4}, {1, 0, 0, 0, 2, 3, 0, 4}, {1, 2, 3, 4, 0}, {1, 2, 3, 4, 0, 0}, make([]int64, 30)}
	for _, f := range []int64{1, 2} {
		for _, log := range logs {
			c := offering(clusterOf(f, 0, decidedAs(f, log...), 3*f+1), built()...)
			for done := range log {
				next := impl.DoneC(c, 1)
				checkTold(t, fmt.Sprintf("slot %d of %v", done+1, log), next, clusterResult(standing(c, withDone(inFirst(1), int64(done)+1))))
				c = next.Cluster
				if got := impl.ValuesC(c, 1); !sameInts(got, placesOf(log[:done+1]...)) {
					t.Errorf("%d of %v: the values %+v", done+1, log, got)
				}
				var requests []impl.Request
				for _, value := range log[:done+1] {
					if value > 0 {
						requests = append(requests, built()[value-1])
					}
				}
				if got, want := impl.StateC(c, 1), impl.RunRequests(requests); !sameState(got, want) {
					t.Errorf("%d of %v: the state %+v, want %+v", done+1, log, got, want)
				}
			}
			checkTold(t, "behind all", impl.DoneC(c, 1), noCluster(impl.ErrState))
		}
	}
	// Without any request nothing may be done all the same.
	none := doneBy(clusterOf(1, 0, decidedAs(1, 0, 0)), 1)
	want := execAnswers{clusterResult(standing(none, withDone(inFirst(3), 2))), placesOf(0), impl.NewState(0), noReply(impl.ErrNone), impl.IntResult{Value: 1}, placesOf()}
	checkExec(t, "no request", execCall{none, 3, 1, 1}, want)
}

// A value that is just how many requests there are is the last one; one above is no request.
func TestExecAsksForTheRequest(t *testing.T) {
	for _, f := range []int64{1, 2} {
		for value := int64(0); value <= 12; value++ {
			for many := range int64(13) {
				name := fmt.Sprintf("%d of %d", value, many)
				c := clusterOf(f, int(many), decidedAs(f, 0, value, 0), 3*f+1)
				want := clusterResult(standing(c, withDone(inFirst(1), 2)))
				if value > many {
					want = noCluster(impl.ErrNone)
				}
				checkTold(t, name+", next", impl.DoneC(standing(c, withDone(inFirst(1), 1)), 1), want)
				// It is asked of the next one alone: neither of one that is done nor of one behind it.
				checkTold(t, name+", behind the next", impl.DoneC(c, 1), clusterResult(standing(c, withDone(inFirst(1), 1))))
				done := standing(c, withDone(inFirst(1), 2))
				checkTold(t, name+", done", impl.DoneC(done, 1), clusterResult(standing(c, withDone(inFirst(1), 3))))
				checkTold(t, name+", all done", impl.DoneC(doneBy(c, 3), 1), noCluster(impl.ErrState))
				state, reply := impl.RunRequests(c.Requests[:0]), noReply(impl.ErrNone)
				if value > many {
					state = noState(impl.ErrNone)
				} else if value > 0 {
					state = impl.RunRequests(c.Requests[value-1 : value])
					reply = impl.ReplyResult{Reply: state.Reply}
				}
				for _, at := range []impl.Cluster{done, doneBy(c, 3)} {
					if got := impl.StateC(at, 1); !sameState(got, state) {
						t.Errorf("%s: the state %+v, want %+v", name, got, state)
					}
					if got := impl.ReplyC(at, 1, 1, value); got != reply {
						t.Errorf("%s: the reply %+v, want %+v", name, got, reply)
					}
					if got := impl.ReplyC(at, 1, 0, 100); got.Code != impl.ErrNone {
						t.Errorf("%s: the reply of nobody %+v", name, got)
					}
				}
				if got := impl.ValuesC(done, 1); !sameInts(got, placesOf(0, value)) {
					t.Errorf("%s: the values %+v", name, got)
				}
				if got := impl.StateC(standing(c, withDone(inFirst(1), 1)), 1); !sameState(got, impl.NewState(0)) {
					t.Errorf("%s: the state ahead of it %+v", name, got)
				}
			}
		}
	}
	// One that is beyond is told wherever it stands among those that are done, whatever the others come to.
	for at := range 4 {
		log := []int64{1, 2, 3, 4}
		log[at] = 5
		c := offering(clusterOf(1, 0, decidedAs(1, log...)), built()...)
		for done := range int64(5) {
			if got, want := impl.StateC(doneBy(c, done), 2), done > int64(at); (got.Code == impl.ErrNone) != want || want && !sameState(got, noState(impl.ErrNone)) {
				t.Errorf("%v, %d done: %+v", log, done, got)
			}
			if got, want := impl.ReplyC(doneBy(c, done), 2, 1, 1), done > int64(at) || at == 0 || done == 0; (got == noReply(impl.ErrNone)) != want {
				t.Errorf("%v, %d done: the reply %+v", log, done, got)
			}
		}
	}
}

// A value that the log tells again is a request that is done again: it is done once, told the same, and has one mark.
func TestExecOfAValueTwice(t *testing.T) {
	for _, f := range []int64{1, 2} {
		for _, log := range [][]int64{{1, 2, 2}, {1, 2, 3, 2}, {1, 2, 2, 2}, {1, 1, 1, 2, 2, 1}, {1, 2, 3, 0, 2, 3, 3}} {
			c := offering(clusterOf(f, 0, decidedAs(f, log...)), built()...)
			seen := map[int64]int64{}
			for done, value := range log {
				c = impl.DoneC(c, 3).Cluster
				if seen[value]++; value == 0 {
					delete(seen, 0)
				}
				got := impl.StateC(c, 3)
				if len(got.State.Marks) != len(seen) || got.Code != impl.OK {
					t.Errorf("%v: %d marks behind %d slots: %+v", log, len(got.State.Marks), done+1, got)
				}
				if value > 0 {
					if mark := impl.ReplyC(c, 3, 1, value); mark.Code != impl.OK || mark.Reply != got.Reply {
						t.Errorf("%v: %+v behind %d slots, and the mark %+v", log, got.Reply, done+1, mark)
					}
				}
			}
			if got := impl.LagC(c, 3); got.Value != 0 || impl.DoneC(c, 3).Code != impl.ErrState {
				t.Errorf("%v: the lag %+v", log, got)
			}
			if got := impl.ReplyC(c, 3, 1, 2); got.Reply != withWhere("/a") {
				t.Errorf("%v: the reply %+v", log, got)
			}
		}
	}
}

// What has a code in its Reply is done, too: it changes nothing of the tree, and its mark has the code.
func TestExecOfRequestsWithACode(t *testing.T) {
	requests := []impl.Request{
		asked(2, 1, 0, create("/b", 1)),
		asked(1, 1, 0, opOpen),
		asked(1, 2, 1, create("/a", 5), setOf("/a", 6, 0), setOf("/a", 7, 0)),
		asked(1, 3, 1, create("/a", 5), setOf("/a", 6, 0), getOf("/a")),
		asked(1, 4, 12, create("/c", 5)),
		asked(1, 5, 1, opOpen),
	}
	replies := []impl.Reply{codeAt(impl.ErrSession, 0), {}, codeAt(impl.ErrVersion, 2), withValue(6), codeAt(impl.ErrSession, 0), {}}
	nodes := []int{1, 1, 1, 2, 2, 2}
	for _, f := range []int64{1, 2} {
		c := offering(clusterOf(f, 0, decidedAs(f, firstOnes(6)...), 1), requests...)
		for at, want := range replies {
			told := impl.DoneC(c, 2)
			checkTold(t, fmt.Sprintf("request %d", at+1), told, clusterResult(standing(c, withDone(inFirst(2), int64(at)+1))))
			c = told.Cluster
			came := impl.StateC(c, 2)
			if came.Code != impl.OK || came.Reply != want || len(came.State.Nodes) != nodes[at] || len(came.State.Marks) != at+1 {
				t.Errorf("behind %d: %+v, want the reply %+v and %d nodes", at+1, came, want, nodes[at])
			}
			for i, r := range requests {
				wanted := noReply(impl.ErrNone)
				if i <= at {
					wanted = impl.ReplyResult{Reply: replies[i]}
				}
				if got := impl.ReplyC(c, 2, r.Client, r.Number); got != wanted {
					t.Errorf("behind %d, of %d: %+v, want %+v", at+1, i+1, got, wanted)
				}
			}
		}
	}
}

func TestReplyC(t *testing.T) {
	// The third slot is decided and not yet done, and the fourth request is not decided.
	c := doneBy(offering(clusterOf(1, 0, decidedAs(1, 1, 2, 3), 4), built()...), 2)
	cases := []struct {
		client int64
		number int64
		want   impl.ReplyResult
	}{
		{1, 1, impl.ReplyResult{}},
		{1, 2, impl.ReplyResult{Reply: withWhere("/a")}},
		{1, 3, noReply(impl.ErrNone)},
		{1, 4, noReply(impl.ErrNone)},
		{1, 5, noReply(impl.ErrNone)},
		{1, 99, noReply(impl.ErrNone)},
		{2, 1, noReply(impl.ErrNone)},
		{9, 1, noReply(impl.ErrNone)},
		{2, 2, noReply(impl.ErrNone)},
	}
	for _, far := range []int64{math.MinInt64, -1, 0, 10, 100, 1<<32 + 1, math.MaxInt64} {
		cases = append(cases, []struct {
			client int64
			number int64
			want   impl.ReplyResult
		}{{far, 1, noReply(impl.ErrNone)}, {1, far, noReply(impl.ErrNone)}, {far, far, noReply(impl.ErrNone)}}...)
	}
	for _, q := range cases {
		for id := int64(1); id <= 3; id++ {
			if got := impl.ReplyC(c, id, q.client, q.number); got != q.want {
				t.Errorf("of %d and %d by %d: %+v, want %+v", q.client, q.number, id, got, q.want)
			}
		}
	}
	later := impl.DoneC(c, 2).Cluster
	if got := impl.ReplyC(later, 2, 1, 3); got != (impl.ReplyResult{Reply: withValue(1)}) {
		t.Errorf("the third, done: %+v", got)
	}
	if got := impl.ReplyC(later, 1, 1, 3); got != noReply(impl.ErrNone) {
		t.Errorf("the third, by one that has not done it: %+v", got)
	}
}

func TestWaitingC(t *testing.T) {
	cases := []struct {
		name string
		many int
		log  []int64
		want []int64
	}{
		{"no requests, no log", 0, nil, nil},
		{"no requests, nothing decided", 0, []int64{0, 0}, nil},
		{"no requests, and one is decided", 0, []int64{3}, nil},
		{"one, not told", 1, nil, []int64{1}},
		{"one, told", 1, []int64{1}, nil},
		{"12, none told", 12, nil, firstOnes(12)},
		{"12, nothing told", 12, []int64{0, 0, 0}, firstOnes(12)},
		{"12, all told", 12, []int64{12, 11, 10, 9, 8, 7, 6, 5, 4, 3, 2, 1}, nil},
		{"12, all told, one behind what is not decided", 12, []int64{12, 11, 10, 9, 8, 7, 6, 5, 4, 3, 2, open, 1}, []int64{1}},
		{"12, the first and the last", 12, []int64{1, 12}, firstOnes(12)[1:11]},
		{"the last one", 5, []int64{1, 2, 3, 4}, []int64{5}},
		{"the first one", 5, []int64{5, 4, 3, 2}, []int64{1}},
		{"one between", 5, []int64{5, 1, 2, 4}, []int64{3}},
		{"some told twice", 5, []int64{2, 2, 4, 2}, []int64{1, 3, 5}},
		{"one that is beyond", 3, []int64{4, 12, 2}, []int64{1, 3}},
		{"nothing between", 3, []int64{0, 2, 0}, []int64{1, 3}},
		{"some beyond a gap", 5, []int64{2, open, 3, 4}, []int64{1, 3, 4, 5}},
		{"all beyond a gap", 3, []int64{open, 1, 2, 3}, []int64{1, 2, 3}},
	}
	for _, f := range []int64{1, 2} {
		for _, w := range cases {
			c := clusterOf(f, w.many, decidedAs(f, w.log...), 2)
			// What was done, and by whom, is all one.
			log := int64(len(modelLog(f, c.Ledger).List))
			for done := range log + 1 {
				for _, c := range []impl.Cluster{doneBy(c, done), standing(c, withDone(waiting(1, 7), done))} {
					if got := impl.WaitingC(c); !sameInts(got, placesOf(w.want...)) {
						t.Errorf("%s, f %d, %d done: %+v, want %v", w.name, f, done, got, w.want)
					}
				}
			}
		}
	}
}

// Of a slot that was decided twice the log has the first value; what is done is that.
func TestExecOfASlotWithTwoValues(t *testing.T) {
	c := offering(clusterOf(1, 0, ledgerOf(commits(0, 1, 4, 1, 2, 3), commits(2, 1, 1, 2, 3, 4), commits(1, 2, 2, 1, 3, 4))), built()...)
	c = impl.DoneC(impl.DoneC(c, 1).Cluster, 1).Cluster
	want := execAnswers{noCluster(impl.ErrState), placesOf(1, 2), impl.RunRequests(built()[:2]), impl.ReplyResult{Reply: withWhere("/a")}, impl.IntResult{}, placesOf(3, 4)}
	checkExec(t, "two values", execCall{c, 1, 1, 2}, want)
}

// In whatever view a replica is, whether it began or not, it does what was decided, and stays where it is.
func TestExecInAnyView(t *testing.T) {
	fine := offering(clusterOf(1, 0, led()), built()...)
	for _, one := range []impl.Replica{inFirst(3), inNew(3, 1, 7), waiting(3, 1), waiting(3, 2), waiting(3, 20)} {
		c := standing(fine, one)
		want := execAnswers{clusterResult(standing(c, withDone(one, 1))), placesOf(), impl.NewState(0), noReply(impl.ErrNone), impl.IntResult{Value: 1}, placesOf(1, 2, 3, 4)}
		checkExec(t, "not yet", execCall{c, 3, 1, 1}, want)
		c = want.done.Cluster
		want = execAnswers{noCluster(impl.ErrState), placesOf(0), impl.NewState(0), noReply(impl.ErrNone), impl.IntResult{}, placesOf(1, 2, 3, 4)}
		checkExec(t, "done", execCall{c, 3, 1, 1}, want)
	}
}

func TestExecIsWhatTheModelTells(t *testing.T) {
	t.Parallel()
	r := rand.New(rand.NewPCG(82, 82))
	var codes [6]map[int64]int
	for at := range codes {
		codes[at] = map[int64]int{}
	}
	fine, nodes, marks := 0, 0, 0
	for range 1200 {
		c := drawnExecCall(r)
		got, want := programExec(c), modelExec(c)
		if !sameExec(got, want) {
			t.Fatalf("of %+v:\n%+v, want\n%+v", c, got, want)
		}
		if got.waiting.Code == impl.OK {
			fine++
			nodes += max(len(got.state.State.Nodes)-1, 0)
			marks += len(got.state.State.Marks)
			for at, code := range got.codes() {
				codes[at][code]++
			}
		}
	}
	for at, wants := range [...]map[int64]int{
		{impl.OK: 200, impl.ErrNone: 30, impl.ErrState: 100},
		{impl.OK: 400, impl.ErrNone: 30},
		{impl.OK: 400, impl.ErrNone: 60},
		{impl.OK: 60, impl.ErrNone: 200},
		{impl.OK: 400, impl.ErrNone: 30},
		{impl.OK: 400},
	} {
		for code, least := range wants {
			if codes[at][code] < least {
				t.Errorf("function %d: the code %d was told only %d times", at, code, codes[at][code])
			}
		}
		for code := range codes[at] {
			if wants[code] == 0 {
				t.Errorf("function %d: the code %d was told", at, code)
			}
		}
	}
	if fine < 700 || fine > 1100 || nodes < 100 || marks < 900 {
		t.Errorf("%d clusters had no fault, %d nodes below the top, %d marks", fine, nodes, marks)
	}
}

// checkNext asks what is so behind a DoneC: all stands as it was but for Done of that replica, which is one more.
func checkNext(t *testing.T, before impl.Cluster, one impl.Replica, after impl.Cluster) {
	t.Helper()
	log := impl.LogOf(before.F, before.Ledger).List
	values := impl.ValuesC(after, one.Id).List
	switch {
	case impl.ClusterFault(after) != impl.OK:
		t.Fatalf("DoneC by %d of %+v: the fault %d", one.Id, before, impl.ClusterFault(after))
	case !sameClusters(after, standing(before, withDone(one, one.Done+1))):
		t.Fatalf("DoneC by %d of %+v: %+v", one.Id, before, after)
	case int64(len(values)) != one.Done+1 || len(values) > len(log) || !slices.Equal(values, log[:one.Done+1]):
		t.Fatalf("DoneC by %d: it has done %v of the log %v", one.Id, values, log)
	case impl.LagC(after, one.Id).Value+one.Done+1 != int64(len(log)):
		t.Fatalf("DoneC by %d: the lag is %+v, of the log %v", one.Id, impl.LagC(after, one.Id), log)
	}
	if value := values[one.Done]; value > int64(len(before.Requests)) {
		t.Fatalf("DoneC by %d: it did %d of %d requests", one.Id, value, len(before.Requests))
	}
}

// Promise 14: what is done is the next one of the log, and never more than it; what it comes to is what the state was ahead of it, with that request.
func TestDoneIsTheNextOfTheLog(t *testing.T) {
	t.Parallel()
	r := rand.New(rand.NewPCG(83, 83))
	did, ended, beyond := 0, 0, 0
	for range 150 {
		c := drawnFineExec(r).c
		for _, one := range c.Replicas {
			for impl.LagC(c, one.Id).Value > 0 && r.IntN(12) > 0 {
				told := impl.DoneC(c, one.Id)
				if told.Code == impl.ErrNone {
					break
				}
				checkNext(t, c, one, told.Cluster)
				value := impl.ValuesC(told.Cluster, one.Id).List[one.Done]
				if before := impl.StateC(c, one.Id); before.Code == impl.OK {
					want := before
					if value > 0 {
						want = impl.ApplyRequest(before.State, c.Requests[value-1])
					}
					if got := impl.StateC(told.Cluster, one.Id); !sameState(got, want) {
						t.Fatalf("DoneC by %d of %+v: the state %+v, want %+v", one.Id, c, got, want)
					}
				}
				c, one = told.Cluster, withDone(one, one.Done+1)
				did++
			}
			log := impl.LogOf(c.F, c.Ledger).List
			switch told := impl.DoneC(c, one.Id); {
			case one.Done == int64(len(log)):
				checkTold(t, "behind all", told, noCluster(impl.ErrState))
				ended++
			case log[one.Done] > int64(len(c.Requests)):
				checkTold(t, "no request", told, noCluster(impl.ErrNone))
				beyond++
			}
		}
	}
	if did < 700 || ended < 200 || beyond < 30 {
		t.Errorf("only %d slots were done, %d replicas did all, %d came to no request", did, ended, beyond)
	}
}

// Promise 14, whatever else is done between: what a replica has done is always the begin of the log, and of two that have done some the one begins with the other.
func TestDoneIsAlwaysTheBeginOfTheLog(t *testing.T) {
	t.Parallel()
	r := rand.New(rand.NewPCG(84, 84))
	did := map[string]int{}
	for range 40 {
		f := 1 + r.Int64N(2)
		n := clusterRun{t: t, r: r, did: did, c: impl.NewCluster(f, drawnBad(r, f, 0)).Cluster}
		for turn := range int64(8) {
			view := turn / 3
			n.take("OfferC", 0, impl.OfferC(n.c, drawnRequests(r, 1)[0]))
			for _, at := range r.Perm(len(n.c.Replicas)) {
				n.act(n.c.Replicas[at].Id)
				n.lie(view)
				if r.IntN(3) == 0 {
					n.take("ChangeC", n.c.Replicas[at].Id, impl.ChangeC(n.c, n.c.Replicas[at].Id, view))
				}
				one := n.c.Replicas[r.IntN(len(n.c.Replicas))]
				if told := impl.DoneC(n.c, one.Id); told.Code == impl.OK {
					checkNext(t, n.c, one, told.Cluster)
					n.c = told.Cluster
					did["DoneC"]++
				}
				log := impl.LogOf(f, n.c.Ledger).List
				for _, one := range n.c.Replicas {
					values := impl.ValuesC(n.c, one.Id).List
					if int64(len(values)) != one.Done || !slices.Equal(values, log[:len(values)]) || impl.LagC(n.c, one.Id).Value+one.Done != int64(len(log)) {
						t.Fatalf("%d has done %v of the log %v", one.Id, values, log)
					}
				}
			}
		}
	}
	if did["DoneC"] < 40 {
		t.Errorf("done: %v", did)
	}
}

// Promise 1: every argument has an answer, however long a list is or how odd its numbers are; no panic leaves the package.
func TestEveryExecIsAnswered(t *testing.T) {
	far := []int64{math.MinInt64, -1, 0, 1, 2, 4, 8, 13, 30, 31, math.MaxInt64}
	for i, n := range far {
		for j, other := range far {
			odd := said(3, n, other, n, other)
			ledgers := [][]impl.Msg{nil, {odd}, decidedAs(1, 1, 12, 0), append(decidedAs(1, 2), odd), slices.Repeat(msgs(odd), 1<<9), decidedAs(2, longLog(30)...)}
			for k, ledger := range ledgers {
				clusters := []impl.Cluster{
					{F: n, Bad: []int64{other}, Replicas: []impl.Replica{{Id: n, View: other, Start: n, Done: other}}, Ledger: ledger, Requests: []impl.Request{asked(n, other, n, make([]impl.Op, max(min(n, 1<<9), 0))...)}},
					doneBy(clusterOf(1, j, ledger, other), n),
					doneBy(clusterOf(2, j%13, ledger), other),
					doneBy(clusterOf(1+int64(k)%2, j%13, ledger), min(max(n, 0), int64(k))),
				}
				for _, c := range clusters {
					call := execCall{c, []int64{n, other, 1, 3}[(i+j)%4], other, n}
					if got, want := answersOf(t, programExec, call), modelExec(call); !sameExec(got, want) {
						t.Fatalf("of %.300s: %+v, want %+v", fmt.Sprint(call), got, want)
					}
				}
			}
		}
	}
}

// Promise 1: an answer hangs on the arguments alone, so it is the same in whatever order it is asked.
func TestExecAnswersHangOnArgumentsAlone(t *testing.T) {
	r := rand.New(rand.NewPCG(85, 85))
	checkAgain(t, drawnMany(r, 150, drawnExecCall), programExec, sameExec)
}

func spanOfText(text string) []span {
	return spanOf(unsafe.Slice(unsafe.StringData(text), len(text)))
}

func spansOfState(s impl.State) []span {
	all := slices.Concat(spanOf(s.Nodes), spanOf(s.Sessions), spanOf(s.Marks))
	for _, z := range s.Nodes {
		// The top is a constant of the program: it lies where it lies.
		if z.Path != "/" {
			all = append(all, spanOfText(z.Path)...)
		}
	}
	for _, m := range s.Marks {
		all = append(all, spanOfText(m.Reply.Path)...)
	}
	return all
}

func spansOfExec(a execAnswers) []span {
	return slices.Concat(spansOfCluster(a.done.Cluster), spanOf(a.values.List), spansOfState(a.state.State), spanOfText(a.state.Reply.Path), spanOfText(a.reply.Reply.Path), spanOf(a.waiting.List))
}

func wipeState(s impl.State) {
	clear(s.Nodes[:cap(s.Nodes)])
	clear(s.Sessions[:cap(s.Sessions)])
	clear(s.Marks[:cap(s.Marks)])
}

// Promise 1: what is answered shares no memory with what is handed in, nor one answer with another, nor two lists of one.
func TestExecAnswersAreNewMemory(t *testing.T) {
	r := rand.New(rand.NewPCG(86, 86))
	lists := 0
	for range 400 {
		c := drawnExecCall(r)
		c.c = ownCluster(c.c)
		first, second, want := programExec(c), programExec(c), modelExec(c)
		want.done.Cluster, want.state.State = ownCluster(want.done.Cluster), ownState(want.state.State)
		told := slices.Concat(spansOfExec(first), spansOfExec(second))
		if lists += len(told); !spansApart(append(told, spansOfCluster(c.c)...)) {
			t.Fatalf("of %+v: %+v shares memory", c, first)
		}
		wipeCluster(first.done.Cluster)
		wipeState(first.state.State)
		clear(first.values.List[:cap(first.values.List)])
		clear(first.waiting.List[:cap(first.waiting.List)])
		if !sameExec(second, want) || !sameExec(programExec(c), want) {
			t.Fatalf("of %+v: who writes into an answer turns another", c)
		}
		wipeCluster(c.c)
		if !sameExec(second, want) {
			t.Fatalf("the answer turned with what was handed in: %+v, want %+v", second, want)
		}
	}
	if lists < 4000 {
		t.Errorf("only %d lists and texts were told", lists)
	}
}

// Promise 1: no call changes the cluster, its lists, or the Certs, Refs and Ops in them, nor what lies behind them.
func TestExecArgumentsStayAsTheyAre(t *testing.T) {
	r := rand.New(rand.NewPCG(87, 87))
	for range 400 {
		c := drawnExecCall(r)
		c.c = ownCluster(c.c)
		old := ownCluster(wholeCluster(c.c))
		programExec(c)
		if !sameClusters(wholeCluster(c.c), old) {
			t.Fatalf("changed: %+v", c)
		}
	}
}
