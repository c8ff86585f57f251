package tests

import (
	"fmt"
	"math"
	"math/rand/v2"
	"runtime"
	"slices"
	"testing"

	"loop.example/g00369/impl"
)

// checkNobodyAudits asks of a cluster with a fault: all tell that alone.
func checkNobodyAudits(t *testing.T, name string, c impl.Cluster, fault int64) {
	t.Helper()
	want := auditAnswers{drained: noCluster(fault), view: impl.IntResult{Code: fault}}
	if got := programAudit(c); !sameAudits(got, want) {
		t.Errorf("%s, of %.300s: %+v, want the code %d alone", name, fmt.Sprint(c), got, fault)
	}
	// Not even where a client believes nothing.
	lies := [][]impl.Vote{nil, sayings(withValue(1), 4), sayings(codeAt(11, -2), 0, 8), make([]impl.Vote, 41)}
	for at, asked := range []int64{1, 0, 10, 100} {
		if impl.TrueRight(c, asked, asked, lies[at]) {
			t.Errorf("%s, of %.300s: true, in spite of the code %d", name, fmt.Sprint(c), fault)
		}
	}
}

func checkView(t *testing.T, name string, c impl.Cluster, want int64) {
	t.Helper()
	wanted := impl.IntResult{Value: want}
	if want == nowhere {
		wanted = impl.IntResult{Code: impl.ErrRange}
		checkTold(t, name+", DrainC", impl.DrainC(c), noCluster(impl.ErrRange))
	}
	if got := impl.ViewFor(c); got != wanted {
		t.Errorf("%s, of %+v: %+v, want %+v", name, c, got, wanted)
	}
}

// nowhere is the view of a cluster that may go on to none.
const nowhere = -1

func TestViewFor(t *testing.T) {
	cases := []struct {
		name string
		f    int64
		view int64
		bad  []int64
		want int64
	}{
		{"the first view, none bad", 1, 0, nil, 1},
		{"the first view, none bad", 2, 0, nil, 1},
		{"another one is bad", 1, 0, []int64{1}, 1},
		{"another one is bad", 1, 0, []int64{3}, 1},
		{"the next primary is bad", 1, 0, []int64{2}, 2},
		{"the next primary is bad", 2, 0, []int64{2}, 2},
		{"the next primary and another one are bad", 2, 0, []int64{2, 4}, 2},
		{"the one behind the next is bad", 2, 0, []int64{3}, 1},
		{"the next two primaries are bad", 2, 0, []int64{2, 3}, 3},
		{"the next primary is bad, a round later", 1, 4, []int64{2}, 6},
		{"the next two primaries are bad, a round later", 2, 7, []int64{2, 3}, 10},
		{"the last one and the first one are bad", 2, 5, []int64{1, 7}, 8},
		{"the first one is bad at the end of a round", 1, 3, []int64{1}, 5},
		{"ahead of the last view", 1, 19, nil, 20},
		{"ahead of the last view", 2, 19, nil, 20},
		{"the primary of the last view is bad", 1, 19, []int64{1}, nowhere},
		{"the primary of the last view is bad", 2, 19, []int64{7}, nowhere},
		{"another one is bad", 1, 19, []int64{2}, 20},
		{"another one is bad", 2, 19, []int64{5, 6}, 20},
		{"two views are left, the last is spoilt", 1, 18, []int64{1}, 19},
		{"two views are left, the last but one is spoilt", 1, 18, []int64{4}, 20},
		{"two views are left, the last is spoilt", 2, 18, []int64{7}, 19},
		{"two views are left, both are spoilt", 2, 18, []int64{6, 7}, nowhere},
		{"three views are left, two are spoilt", 2, 17, []int64{6, 7}, 18},
		{"three views are left, the first two are spoilt", 2, 17, []int64{5, 6}, 20},
		{"the last view", 1, 20, nil, nowhere},
		{"the last view", 2, 20, nil, nowhere},
		{"the last view, some bad", 2, 20, []int64{1, 2}, nowhere},
	}
	for _, v := range cases {
		base := clusterOf(v.f, 2, nil, v.bad...)
		all := base
		for _, one := range base.Replicas {
			all = standing(all, waiting(one.Id, v.view))
			// One alone is enough, whatever the views of the others below.
			checkView(t, v.name+", one alone", standing(base, waiting(one.Id, v.view)), v.want)
			other := base.Replicas[(one.Id+1)%int64(len(base.Replicas))]
			checkView(t, v.name+", another one behind it", allStanding(base, waiting(other.Id, v.view/2), waiting(one.Id, v.view)), v.want)
		}
		checkView(t, v.name, all, v.want)
	}
	// Whether a replica is in its view, and what was said of later views, is all one.
	c := allStanding(clusterOf(1, 2, ledgerOf(led(), changesBy(9, 1, 2, 3)), 4), inNew(1, 1, 7), waiting(2, 1), inFirst(3))
	checkView(t, "of views that began", c, 2)
}

func TestViewForOfAllViews(t *testing.T) {
	for _, f := range []int64{1, 2} {
		for set := range uint(1) << (3*f + 1) {
			bad := onesOf(set)
			if len(bad) > int(f) {
				continue
			}
			for view := range int64(21) {
				c := standing(clusterOf(f, 0, nil, bad...), waiting(modelGood(f, bad)[int(view)%int(2*f+1)], view))
				if got, want := impl.ViewFor(c), modelViewFor(c); got != want {
					t.Errorf("f %d, bad %v, view %d: %+v, want %+v", f, bad, view, got, want)
				}
			}
		}
	}
}

// filled is what all that are not bad say of a slot.
func filled(view int64, lead int64, slot int64, value int64, good ...int64) []impl.Msg {
	return ledgerOf(msgs(said(1, view, lead, slot, value)), prepares(view, slot, value, good...), commits(view, slot, value, good...))
}

// drainedTo is a cluster that all that are not bad have drained: behind what was said they change to a view, each with its certificates, the primary begins it with the changes at refs, and each slot is filled with its value.
func drainedTo(c impl.Cluster, view int64, told map[int64][]impl.Cert, refs []int64, values ...int64) impl.ClusterResult {
	good, lead := modelIds(c.Replicas), modelPrimary(c.F, view).Value
	for _, id := range good {
		c = saying(c, changing(view, id, told[id]...))
	}
	start := len(c.Ledger)
	c = saying(c, beginning(view, lead, refs...))
	for at, value := range values {
		c = saying(c, filled(view, lead, int64(at)+1, value, good...)...)
	}
	for _, id := range good {
		c = standing(c, withDone(inNew(id, view, start), int64(len(values))))
	}
	return clusterResult(c)
}

// behind are the places of the first of those that are said behind a ledger.
func behind(c impl.Cluster, many int64) []int64 {
	return counting(len(c.Ledger) + int(many))[len(c.Ledger):]
}

func checkDrain(t *testing.T, name string, c impl.Cluster, want impl.ClusterResult) {
	t.Helper()
	checkCluster(t, name, c, impl.OK)
	got := impl.DrainC(c)
	checkTold(t, name, got, want)
	if got.Code == impl.OK {
		checkCluster(t, name+", drained", got.Cluster, impl.OK)
	}
}

func TestDrainCOfRequests(t *testing.T) {
	for _, f := range []int64{1, 2} {
		for _, bad := range [][]int64{nil, {1}, {2}, {3*f + 1}, firstOnes(f), lastOnes(f, f)} {
			slices.Sort(bad)
			for many := range 13 {
				c := clusterOf(f, many, nil, bad...)
				view := modelViewFor(c).Value
				checkDrain(t, fmt.Sprintf("%d requests, bad %v of f %d", many, bad, f), c, drainedTo(c, view, nil, behind(c, 2*f+1), firstOnes(int64(many))...))
			}
		}
	}
}

// What enough have prepared and somebody committed is taken over, each in its slot; slots between are empty, and all other values stand behind.
func TestDrainCTakesOver(t *testing.T) {
	for _, f := range []int64{1, 2} {
		all, last := firstOnes(2*f+1), 3*f+1
		one := func(slot int64, value int64) map[int64][]impl.Cert {
			return map[int64][]impl.Cert{1: certs(cert(slot, 0, value))}
		}
		every := func(list ...impl.Cert) map[int64][]impl.Cert {
			told := map[int64][]impl.Cert{}
			for _, id := range all {
				told[id] = list
			}
			return told
		}
		cases := []struct {
			name   string
			ledger []impl.Msg
			told   map[int64][]impl.Cert
			values []int64
		}{
			{"prepared by enough, committed by none", prepares(0, 1, 3, all...), nil, []int64{1, 2, 3}},
			{"prepared by too few", prepares(0, 1, 3, all[1:]...), nil, []int64{1, 2, 3}},
			{"committed by one", ledgerOf(prepares(0, 1, 3, all...), commits(0, 1, 3, 1)), one(1, 3), []int64{3, 1, 2}},
			{"committed by all", ledgerOf(prepares(0, 1, 3, all...), commits(0, 1, 3, all...)), every(cert(1, 0, 3)), []int64{3, 1, 2}},
			{"committed in slot 2 alone", ledgerOf(prepares(0, 2, 3, all...), commits(0, 2, 3, 1)), one(2, 3), []int64{0, 3, 1, 2}},
			{"committed in slot 6 alone", ledgerOf(prepares(0, 6, 1, all...), commits(0, 6, 1, 1)), one(6, 1), []int64{0, 0, 0, 0, 0, 1, 2, 3}},
			{"nothing committed in slot 3", ledgerOf(prepares(0, 3, 0, all...), commits(0, 3, 0, 1)), one(3, 0), []int64{0, 0, 0, 1, 2, 3}},
			{"the last value in slot 1, the first in slot 3", ledgerOf(prepares(0, 1, 3, all...), prepares(0, 3, 1, all...), commits(0, 1, 3, all...), commits(0, 3, 1, all...)), every(cert(1, 0, 3), cert(3, 0, 1)), []int64{3, 0, 1, 2}},
			{"one value in two slots", ledgerOf(prepares(0, 1, 2, all...), prepares(0, 2, 2, all...), commits(0, 1, 2, all...), commits(0, 2, 2, all...)), every(cert(1, 0, 2), cert(2, 0, 2)), []int64{2, 2, 1, 3}},
			{"all of them", ledgerOf(prepares(0, 1, 3, all...), prepares(0, 2, 1, all...), prepares(0, 3, 2, all...), commits(0, 1, 3, all...), commits(0, 2, 1, all...), commits(0, 3, 2, all...)), every(cert(1, 0, 3), cert(2, 0, 1), cert(3, 0, 2)), []int64{3, 1, 2}},
		}
		for _, d := range cases {
			c := clusterOf(f, 3, d.ledger, lastOnes(f, f)...)
			slices.Sort(c.Bad)
			checkDrain(t, d.name, c, drainedTo(c, 1, d.told, behind(c, 2*f+1), d.values...))
			// What was proposed, prepared or forged without that counts for nothing.
			c = saying(c, said(1, 0, 1, 1, 2), said(1, 0, last, 1, 1), said(3, 0, last, 4, 2), said(2, 1, last, 1, 2), said(1, 1, last, 1, 2))
			checkDrain(t, d.name+", and what is not enough", c, drainedTo(c, 1, d.told, behind(c, 2*f+1), d.values...))
		}
	}
}

// Who has done some goes on from there, in whatever view it was.
func TestDrainCGoesOn(t *testing.T) {
	ledger := ledgerOf(prepares(0, 1, 2, 1, 2, 3), commits(0, 1, 2, 1, 2, 3))
	told := map[int64][]impl.Cert{1: certs(cert(1, 0, 2)), 2: certs(cert(1, 0, 2)), 3: certs(cert(1, 0, 2))}
	c := allStanding(clusterOf(1, 3, ledger, 4), withDone(inFirst(1), 1), waiting(2, 5), withDone(waiting(3, 2), 1))
	checkDrain(t, "several views", c, drainedTo(c, 6, told, behind(c, 3), 2, 1, 3))
	// Behind that there is nothing to do but to go on to the next view with all that was done: 1 leads 8, as 4, who would lead 7, is bad.
	again := impl.DrainC(c).Cluster
	kept := certs(cert(1, 6, 2), cert(2, 6, 1), cert(3, 6, 3))
	first := map[int64][]impl.Cert{1: kept, 2: kept, 3: kept}
	checkDrain(t, "again", again, drainedTo(again, 8, first, behind(again, 3), 2, 1, 3))
	offered := offering(again, asked(9, 9, 9, opOpen))
	checkDrain(t, "again, with one more request", offered, drainedTo(offered, 8, first, behind(offered, 3), 2, 1, 3, 4))
	up := allStanding(clusterOf(1, 2, nil), waiting(1, 3), waiting(2, 19), waiting(3, 7))
	checkDrain(t, "up to the last view", up, drainedTo(up, 20, nil, behind(up, 3), 1, 2))
	checkDrain(t, "behind the last view", impl.DrainC(up).Cluster, noCluster(impl.ErrRange))
}

// A change that a bad one said ahead is one of those that the view begins with, if it is right.
func TestDrainCWithForgedChanges(t *testing.T) {
	ledger := ledgerOf(prepares(0, 1, 3, 1, 2, 3), prepares(0, 2, 1, 1, 2, 3))
	check := func(name string, forged impl.Msg, refs []int64, values ...int64) {
		t.Helper()
		c := clusterOf(1, 3, ledgerOf(ledger, msgs(forged)), 4)
		checkDrain(t, name, c, drainedTo(c, 1, nil, refs, values...))
	}
	check("with nothing", changing(1, 4), []int64{6, 7, 8}, 1, 2, 3)
	check("with what is prepared", changing(1, 4, cert(1, 0, 3)), []int64{6, 7, 8}, 3, 1, 2)
	check("with what is prepared in slot 2", changing(1, 4, cert(2, 0, 1)), []int64{6, 7, 8}, 0, 1, 2, 3)
	check("with what is not prepared", changing(1, 4, cert(1, 0, 2)), []int64{7, 8, 9}, 1, 2, 3)
	check("to another view", changing(2, 4, cert(1, 0, 3)), []int64{7, 8, 9}, 1, 2, 3)
}

// Whose commits nobody prepared tells of them wrongly: without its change there may be too few.
func TestDrainCWithTooFewChanges(t *testing.T) {
	for _, f := range []int64{1, 2} {
		c := clusterOf(f, 2, commits(0, 1, 2, 3), lastOnes(f, f)...)
		slices.Sort(c.Bad)
		checkDrain(t, "one change is not right", c, noCluster(impl.ErrSign))
		helped := saying(c, changing(1, 3*f+1))
		refs := append([]int64{1}, slices.DeleteFunc(behind(helped, 2*f+1), func(at int64) bool { return at == 4 })...)
		checkDrain(t, "a bad one helps", helped, drainedTo(helped, 1, map[int64][]impl.Cert{3: certs(cert(1, 0, 2))}, refs, 1, 2))
		whole := clusterOf(f, 2, commits(0, 1, 2, 3))
		refs = slices.DeleteFunc(behind(whole, 2*f+2), func(at int64) bool { return at == 3 })
		checkDrain(t, "enough others", whole, drainedTo(whole, 1, map[int64][]impl.Cert{3: certs(cert(1, 0, 2))}, refs, 1, 2))
	}
}

// A value that is taken over and is above all requests is told ErrNone, wherever it stands.
func TestDrainCAsksForTheRequests(t *testing.T) {
	t.Parallel()
	for _, f := range []int64{1, 2} {
		all := firstOnes(2*f + 1)
		for slot := int64(1); slot <= 3; slot++ {
			for value := int64(1); value <= 12; value++ {
				for many := range 13 {
					c := clusterOf(f, many, ledgerOf(prepares(0, slot, value, all...), commits(0, slot, value, 1)), lastOnes(f, f)...)
					slices.Sort(c.Bad)
					got := impl.DrainC(c)
					if want := int(value) > many; (got.Code == impl.ErrNone) != want || want && !sameTold(got, noCluster(impl.ErrNone)) || !want && got.Code != impl.OK {
						t.Errorf("%d in slot %d, of %d: the code %d", value, slot, many, got.Code)
					}
				}
			}
		}
	}
}

// In the last slot there is room for what is taken over; behind it for nothing.
func TestDrainCUpToTheLastSlot(t *testing.T) {
	t.Parallel()
	for slot := int64(1); slot <= 30; slot++ {
		for many := range 5 {
			c := clusterOf(1, many, ledgerOf(prepares(0, slot, 0, 1, 2, 3), commits(0, slot, 0, 2)), 4)
			values := append(make([]int64, slot), firstOnes(int64(many))...)
			want := drainedTo(c, 1, map[int64][]impl.Cert{2: certs(cert(slot, 0, 0))}, behind(c, 3), values...)
			if int(slot)+many > 30 {
				want = noCluster(impl.ErrRange)
			}
			// That is told where it comes up, be there room for more or not.
			checkDrain(t, fmt.Sprintf("%d behind slot %d", many, slot), c, want)
		}
	}
}

// Wherever the ledger gets full, that is told; where there is just enough room, it is not.
func TestDrainCInAFullLedger(t *testing.T) {
	for _, f := range []int64{1, 2} {
		good := 2*f + 1
		for many := range int64(4) {
			base := clusterOf(f, int(many), nil, lastOnes(f, f)...)
			slices.Sort(base.Bad)
			needs := good + 1 + many*(2*good+1)
			for left := range needs + 3 {
				c := saying(base, chatter(240-int(left), 3*f+1)...)
				want := noCluster(impl.ErrMany)
				if left >= needs {
					want = drainedTo(c, 1, nil, behind(c, good), firstOnes(many)...)
				}
				checkDrain(t, fmt.Sprintf("%d requests, room for %d", many, left), c, want)
			}
		}
	}
	// What is told first is what comes up first.
	c := saying(clusterOf(1, 2, commits(0, 1, 2, 3), 4), chatter(236, 4)...)
	checkDrain(t, "room for all changes, of which one is not right", c, noCluster(impl.ErrSign))
	c = saying(clusterOf(1, 2, commits(0, 1, 2, 3), 4), chatter(237, 4)...)
	checkDrain(t, "no room for the last change", c, noCluster(impl.ErrMany))
	c = saying(clusterOf(1, 2, ledgerOf(prepares(0, 1, 3, 1, 2, 3), commits(0, 1, 3, 1)), 4), chatter(232, 4)...)
	checkDrain(t, "no room to propose what is no request", c, noCluster(impl.ErrNone))
	c = saying(clusterOf(1, 2, ledgerOf(prepares(0, 1, 3, 1, 2, 3), commits(0, 1, 3, 1)), 4), chatter(233, 4)...)
	checkDrain(t, "no room to begin what then is no request", c, noCluster(impl.ErrMany))
}

// What was said of the new view ahead of it, by one that is not bad, stands in the way, or is not said again.
func TestDrainCBehindWhatWasSaid(t *testing.T) {
	base := clusterOf(1, 3, nil, 4)
	check := func(name string, want int64, list ...impl.Msg) {
		t.Helper()
		checkDrain(t, name, saying(base, list...), noCluster(want))
	}
	check("proposed in slot 1", impl.ErrTaken, said(1, 1, 2, 1, 1))
	check("proposed in slot 3", impl.ErrTaken, said(1, 1, 2, 3, 3))
	check("proposed in slot 3, another value", impl.ErrForm, said(1, 1, 2, 3, 2))
	check("proposed in a slot behind", impl.ErrForm, said(1, 1, 2, 9, 1))
	check("prepared by one", impl.ErrTaken, said(2, 1, 3, 2, 2))
	check("prepared by one, another value", impl.ErrTaken, said(2, 1, 1, 2, 5))
	check("committed by one", impl.ErrTaken, said(3, 1, 3, 1, 1))
	check("committed by one, another value", impl.ErrTaken, said(3, 1, 1, 3, 5))
	for _, m := range msgs(said(1, 1, 2, 9, 5), said(1, 1, 4, 1, 1), said(1, 2, 2, 1, 1), said(1, 0, 2, 1, 1), said(2, 1, 3, 4, 1), said(2, 2, 3, 1, 1), said(2, 1, 4, 1, 2), said(3, 1, 3, 4, 1), said(3, 2, 3, 1, 1), said(3, 1, 4, 1, 2)) {
		c := saying(base, m)
		checkDrain(t, fmt.Sprint("another thing: ", m), c, drainedTo(c, 1, nil, behind(c, 3), 1, 2, 3))
	}
	// What is there already is not said again: the third change, and what begins the view with it.
	early := saying(base, changing(1, 3))
	want := drainedTo(early, 1, nil, []int64{0, 1, 2}, 1, 2, 3).Cluster
	want.Ledger = slices.Delete(want.Ledger, 3, 4)
	for _, one := range want.Replicas {
		one.Start = 3
		want = standing(want, one)
	}
	checkDrain(t, "a change that is there", early, clusterResult(want))
	begun := saying(base, append(changesBy(1, 1, 2, 3), beginning(1, 2, 0, 1, 2))...)
	want = drainedTo(base, 1, nil, []int64{0, 1, 2}, 1, 2, 3).Cluster
	checkDrain(t, "all that begins the view is there", begun, clusterResult(want))
	// What one said that it changes with counts first, whatever it would say now.
	other := saying(clusterOf(1, 3, ledgerOf(prepares(0, 1, 3, 1, 2, 3), commits(0, 1, 3, 1)), 4), changing(1, 1))
	want = drainedTo(other, 1, map[int64][]impl.Cert{1: certs(cert(1, 0, 3))}, []int64{4, 6, 7}, 1, 2, 3).Cluster
	checkDrain(t, "a change without what was committed then", other, clusterResult(want))
}

// Who comes to what is no request does no more; the others do.
func TestDrainCOfWhoDoesNoMore(t *testing.T) {
	// In View 5, where none of them was, the slots 1 to 4 were decided; nobody tells of it when all go on to View 1.
	ledger := ledgerOf(commits(5, 1, 1, 1, 2, 3), commits(5, 2, 2, 1, 2, 3), commits(5, 3, 12, 1, 2, 3), commits(5, 4, 1, 1, 2, 3))
	base := clusterOf(1, 2, ledger, 4)
	for done, want := range []int64{2, 2, 2, 4, 4} {
		for other, wanted := range []int64{2, 2, 2, 4, 4} {
			c := allStanding(base, withDone(inFirst(1), int64(done)), withDone(inFirst(3), int64(other)))
			drained := drainedTo(c, 1, nil, behind(c, 3), 1, 2).Cluster
			drained = allStanding(drained, withDone(drained.Replicas[0], want), withDone(drained.Replicas[2], wanted))
			checkDrain(t, fmt.Sprintf("%d and %d done", done, other), c, clusterResult(drained))
		}
	}
	// With enough requests all do all.
	more := clusterOf(1, 12, ledger, 4)
	if got := impl.DrainC(more); got.Code != impl.OK || slices.ContainsFunc(got.Cluster.Replicas, func(one impl.Replica) bool { return one.Done != 12 }) {
		t.Errorf("with enough requests: %+v", got)
	}
}

func TestAuditsAreWhatTheModelTells(t *testing.T) {
	t.Parallel()
	r := rand.New(rand.NewPCG(95, 95))
	codes := map[int64]int{}
	sent, done, faults, unsafe, dishonest := 0, 0, 0, 0, 0
	for range 900 {
		c := drawnAudit(r)
		got, want := programAudit(c), modelAudit(c)
		if !sameAudits(got, want) {
			t.Fatalf("of %+v:\n%+v, want\n%+v", c, got, want)
		}
		if impl.ClusterFault(c) != impl.OK {
			faults++
			continue
		}
		codes[got.drained.Code]++
		if !got.safe {
			unsafe++
		}
		if !got.honest {
			dishonest++
		}
		if got.drained.Code == impl.OK {
			sent += len(got.drained.Cluster.Ledger) - len(c.Ledger)
			for at, one := range got.drained.Cluster.Replicas {
				done += int(one.Done - c.Replicas[at].Done)
			}
		}
	}
	for code, least := range map[int64]int{impl.OK: 300, impl.ErrMany: 10, impl.ErrRange: 10, impl.ErrNone: 20, impl.ErrSign: 20, impl.ErrTaken: 5, impl.ErrForm: 2} {
		if codes[code] < least {
			t.Errorf("the code %d was told only %d times", code, codes[code])
		}
	}
	if sent < 6000 || done < 2000 || faults < 100 || unsafe < 10 || dishonest < 100 {
		t.Errorf("only %d messages were sent, %d slots done, %d had a fault, %d were not safe, %d not honest", sent, done, faults, unsafe, dishonest)
	}
}

// hands do one thing behind the other, up to the first that has a code.
type hands struct {
	c    impl.Cluster
	code int64
}

func (h *hands) do(what func(c impl.Cluster) impl.ClusterResult) {
	if h.code != impl.OK {
		return
	}
	told := what(h.c)
	if h.code = told.Code; h.code == impl.OK {
		h.c = told.Cluster
	}
}

func (h *hands) all(what func(c impl.Cluster, id int64) impl.ClusterResult) {
	for _, id := range modelIds(h.c.Replicas) {
		h.do(func(c impl.Cluster) impl.ClusterResult { return what(c, id) })
	}
}

// byHand drains a cluster by the functions that the document names, call by call.
func byHand(c impl.Cluster) impl.ClusterResult {
	view := impl.ViewFor(c)
	h, lead := hands{c: c, code: view.Code}, impl.PrimaryOf(c.F, view.Value).Value
	h.all(func(c impl.Cluster, id int64) impl.ClusterResult { return impl.ChangeC(c, id, view.Value) })
	h.do(func(c impl.Cluster) impl.ClusterResult { return impl.NewC(c, lead) })
	if h.code != impl.OK {
		return noCluster(h.code)
	}
	start := h.c.Replicas[slices.Index(modelIds(c.Replicas), lead)].Start
	h.all(func(c impl.Cluster, id int64) impl.ClusterResult {
		if id == lead {
			return clusterResult(c)
		}
		return impl.AdoptC(c, id, start)
	})
	values := impl.PickOf(c.F, h.c.Ledger, h.c.Ledger[start].Refs).List
	for value := int64(1); int(value) <= len(c.Requests); value++ {
		if !slices.Contains(values, value) {
			values = append(values, value)
		}
	}
	for at, value := range values {
		slot, place := int64(at)+1, int64(len(h.c.Ledger))
		h.do(func(c impl.Cluster) impl.ClusterResult { return impl.ProposeC(c, lead, slot, value) })
		h.all(func(c impl.Cluster, id int64) impl.ClusterResult { return impl.PrepareC(c, id, place) })
		h.all(func(c impl.Cluster, id int64) impl.ClusterResult { return impl.CommitC(c, id, slot, value) })
	}
	h.all(func(c impl.Cluster, id int64) impl.ClusterResult {
		for told := impl.DoneC(c, id); told.Code == impl.OK; told = impl.DoneC(c, id) {
			c = told.Cluster
		}
		return clusterResult(c)
	})
	if h.code != impl.OK {
		return noCluster(h.code)
	}
	return clusterResult(h.c)
}

func TestDrainCIsWhatIsDoneByHand(t *testing.T) {
	r := rand.New(rand.NewPCG(96, 96))
	codes := map[int64]int{}
	for range 150 {
		c := drawnFineAudit(r)
		got, want := impl.DrainC(c), byHand(c)
		if !sameTold(got, want) {
			t.Fatalf("of %+v:\n%+v, want\n%+v", c, got, want)
		}
		codes[got.Code]++
	}
	if codes[impl.OK] < 50 || len(codes) < 5 {
		t.Errorf("the codes: %v", codes)
	}
}

// What DrainC answers has no fault; what was decided stays so, and in no slot there are two values; where all came of steps all requests are decided and done, and each that is not bad tells so.
func TestWhatIsDrained(t *testing.T) {
	r := rand.New(rand.NewPCG(97, 97))
	drained, told := 0, 0
	for range 250 {
		c := drawnGrown(r)
		got := impl.DrainC(c)
		if got.Code != impl.OK {
			continue
		}
		drained++
		after, good := got.Cluster, len(c.Replicas)
		if code := impl.ClusterFault(after); code != impl.OK || !sameLedgers(after.Ledger[:len(c.Ledger)], c.Ledger) || !slices.EqualFunc(after.Requests, c.Requests, sameAsked) || !slices.Equal(after.Bad, c.Bad) {
			t.Fatalf("of %+v: %+v, with the fault %d", c, after, code)
		}
		log, before := impl.LogOf(c.F, after.Ledger).List, impl.LogOf(c.F, c.Ledger).List
		if len(log) < len(before) || !slices.Equal(log[:len(before)], before) || len(impl.WaitingC(after).List) > 0 {
			t.Fatalf("of %+v: the log %v behind %v", c, log, before)
		}
		for slot := range int64(len(log)) {
			if values := impl.DecidedAt(c.F, after.Ledger, slot+1).List; len(values) != 1 {
				t.Fatalf("of %+v: slot %d has the values %v", c, slot+1, values)
			}
		}
		for _, one := range after.Replicas {
			if one.View != impl.ViewFor(c).Value || impl.LagC(after, one.Id).Value != 0 {
				t.Fatalf("of %+v: %+v is not done", c, one)
			}
		}
		for _, asked := range c.Requests {
			var lies []impl.Vote
			if len(c.Bad) > 0 {
				lies = drawnVotes(r, r.IntN(20), c.Bad, drawnMany(r, 2, drawnReply))
			}
			votes, believes := impl.GatherC(after, asked.Client, asked.Number).Votes, impl.AskC(after, asked.Client, asked.Number, lies)
			if len(votes) != good || believes != (impl.ReplyResult{Reply: votes[0].Reply}) {
				t.Fatalf("of %+v: %+v tell of %+v, and %+v is believed", c, votes, asked, believes)
			}
			told += len(votes)
		}
	}
	if drained < 200 || told < 1000 {
		t.Errorf("%d were drained, and %d told", drained, told)
	}
}

// Promise 1: nothing runs on when a call has answered, with a code in the midst or not.
func TestNothingRunsOnBehindAudits(t *testing.T) {
	full := saying(clusterOf(1, 12, nil, 4), chatter(200, 4)...)
	calls := []impl.Cluster{clusterOf(1, 12, nil, 4), clusterOf(2, 12, nil), full, saying(clusterOf(1, 12, nil, 4), said(1, 1, 2, 3, 3)), clusterOf(1, 0, nil)}
	before := runtime.NumGoroutine()
	for range 40 {
		for _, c := range calls {
			programAudit(c)
			impl.TrueRight(c, 1, 1, nil)
			if now := runtime.NumGoroutine(); now > before {
				t.Fatalf("%d run, and %d ran ahead", now, before)
			}
		}
	}
}

// Promise 1: every argument has an answer, however long a list is or how odd its numbers are; no panic leaves the package.
func TestEveryAuditIsAnswered(t *testing.T) {
	t.Parallel()
	far := []int64{math.MinInt64, -1, 0, 1, 2, 4, 8, 12, 13, 19, 20, 21, math.MaxInt64}
	for i, n := range far {
		for j, other := range far {
			odd := said(3, n, other, n, other)
			ledgers := [][]impl.Msg{nil, {odd}, decidedAs(1, 1, 12, 0), append(decidedAs(1, 2), odd), slices.Repeat(msgs(odd), 1<<9), starts(), manyMsgs(240), begun()}
			for k, ledger := range ledgers {
				clusters := []impl.Cluster{
					{F: n, Bad: []int64{other}, Replicas: []impl.Replica{{Id: n, View: other, Start: n, Done: other}}, Ledger: ledger, Requests: []impl.Request{asked(n, other, n, make([]impl.Op, max(min(n, 1<<9), 0))...)}},
					clusterOf(1, j, ledger, other),
					standing(clusterOf(1+int64(k)%2, j%13, ledger), waiting(2, n)),
					standing(clusterOf(1, i, ledger, 4), impl.Replica{Id: 2, View: 1, Start: 7, Done: other}),
				}
				for _, c := range clusters {
					if got, want := answersOf(t, programAudit, c), modelAudit(c); !sameAudits(got, want) {
						t.Fatalf("of %.300s: %+v, want %+v", fmt.Sprint(c), got, want)
					}
				}
			}
		}
	}
}

// Promise 1: an answer hangs on the arguments alone, so it is the same in whatever order it is asked.
func TestAuditAnswersHangOnArgumentsAlone(t *testing.T) {
	r := rand.New(rand.NewPCG(98, 98))
	checkAgain(t, drawnMany(r, 100, drawnAudit), programAudit, sameAudits)
}

// Promise 1: what is answered shares no memory with what is handed in, nor one answer with another, nor two lists of one.
func TestAuditAnswersAreNewMemory(t *testing.T) {
	t.Parallel()
	r := rand.New(rand.NewPCG(99, 99))
	lists := 0
	for range 250 {
		c := ownCluster(drawnAudit(r))
		first, second, want := programAudit(c), programAudit(c), modelAudit(c)
		want.drained.Cluster = ownCluster(want.drained.Cluster)
		told := slices.Concat(spansOfCluster(first.drained.Cluster), spansOfCluster(second.drained.Cluster))
		if lists += len(told); !spansApart(append(told, spansOfCluster(c)...)) {
			t.Fatalf("of %+v: %+v shares memory", c, first)
		}
		wipeCluster(first.drained.Cluster)
		if !sameAudits(second, want) || !sameAudits(programAudit(c), want) {
			t.Fatalf("of %+v: who writes into an answer turns another", c)
		}
		wipeCluster(c)
		if !sameAudits(second, want) {
			t.Fatalf("the answer turned with what was handed in: %+v, want %+v", second, want)
		}
	}
	if lists < 1000 {
		t.Errorf("only %d lists and texts were told", lists)
	}
}

// Promise 1: no call changes the cluster, its lists, or the Certs, Refs and Ops in them, nor what lies behind them.
func TestAuditArgumentsStayAsTheyAre(t *testing.T) {
	r := rand.New(rand.NewPCG(100, 100))
	for range 250 {
		c := ownCluster(drawnAudit(r))
		old := ownCluster(wholeCluster(c))
		programAudit(c)
		if !sameClusters(wholeCluster(c), old) {
			t.Fatalf("changed: %+v", c)
		}
	}
}
