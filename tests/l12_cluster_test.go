package tests

import (
	"cmp"
	"fmt"
	"math"
	"math/rand/v2"
	"slices"
	"testing"
	"unsafe"

	"loop.example/g00369/impl"
)

// clusterOf is one in View 0, of which so many requests are offered.
func clusterOf(f int64, many int, ledger []impl.Msg, bad ...int64) impl.Cluster {
	c := impl.Cluster{F: f, Bad: bad, Ledger: ledger, Requests: oneByOne(many)}
	for _, id := range modelGood(f, bad) {
		c.Replicas = append(c.Replicas, inFirst(id))
	}
	return c
}

// allStanding is a cluster in which some replicas stand in the places of those of their Ids.
func allStanding(c impl.Cluster, list ...impl.Replica) impl.Cluster {
	for _, one := range list {
		c = standing(c, one)
	}
	return c
}

// saying is a cluster in which some was said behind all else.
func saying(c impl.Cluster, list ...impl.Msg) impl.Cluster {
	c.Ledger = ledgerOf(c.Ledger, list)
	return c
}

func offering(c impl.Cluster, list ...impl.Request) impl.Cluster {
	c.Requests = slices.Concat(c.Requests, list)
	return c
}

func checkTold(t *testing.T, name string, got impl.ClusterResult, want impl.ClusterResult) {
	t.Helper()
	if !sameTold(got, want) {
		t.Errorf("%s: %+v, want %+v", name, got, want)
	}
}

// clusterAsks are calls of one cluster: in some of them all else may be done, in some all else is wrong.
func clusterAsks(c impl.Cluster) []clusterCall {
	calls := []clusterCall{
		{r: asked(9, 99, 0, opOpen), id: 1, next: cert(1, 0, 1), done: cert(1, 0, 1), view: 20, m: said(2, 0, 4, 1, 1)},
		{r: asked(0, 100, -1), id: 0, next: cert(0, 0, 13), place: -1, done: cert(31, 0, -1), view: 21, start: -1, m: said(0, 21, 0, 0, 13)},
		{},
	}
	for i := range calls {
		calls[i].c = c
	}
	return calls
}

// checkCluster asks for the fault of a cluster; where it has one all other functions must tell that alone.
func checkCluster(t *testing.T, name string, c impl.Cluster, want int64) {
	t.Helper()
	if got := impl.ClusterFault(c); got != want {
		t.Errorf("%s: ClusterFault of %.300s: %d, want %d", name, fmt.Sprint(c), got, want)
	}
	if want == impl.OK {
		return
	}
	for _, call := range clusterAsks(c) {
		for at, told := range programCluster(call).told {
			if at != asNew && !sameTold(told, noCluster(want)) {
				t.Errorf("%s: %s of %.300s: %+v, want the code %d alone", name, clusterFaces[at], fmt.Sprint(c), told, want)
			}
		}
	}
	checkNobodyDoes(t, name, c, want)
	checkNobodyTells(t, name, c, want)
	checkNobodyAudits(t, name, c, want)
	checkNobodyWrites(t, name, c, want)
}

func TestClusterBounds(t *testing.T) {
	if impl.MaxRequests != 12 {
		t.Errorf("MaxRequests: %d, want 12", impl.MaxRequests)
	}
}

// A whole story: two requests, of which one is done in View 0 and both in View 1; the fourth replica lies all the way.
func TestClusterOfAStory(t *testing.T) {
	want := clusterOf(1, 0, nil, 4)
	c := impl.Cluster{}
	take := func(name string, told impl.ClusterResult, next impl.Cluster) {
		t.Helper()
		want = next
		checkTold(t, name, told, clusterResult(want))
		checkCluster(t, name, told.Cluster, impl.OK)
		c = told.Cluster
	}
	take("new", impl.NewCluster(1, []int64{4}), want)
	take("the first request", impl.OfferC(c, asked(1, 1, 0, opOpen)), offering(want, asked(1, 1, 0, opOpen)))
	take("the second request", impl.OfferC(c, asked(1, 2, 3, create("/a", 7))), offering(want, asked(1, 2, 3, create("/a", 7))))
	take("propose", impl.ProposeC(c, 1, 1, 2), saying(want, said(1, 0, 1, 1, 2)))
	for id := int64(1); id <= 3; id++ {
		take("prepare", impl.PrepareC(c, id, 0), saying(want, said(2, 0, id, 1, 2)))
	}
	take("a lie", impl.ForgeC(c, said(2, 0, 4, 1, 1)), saying(want, said(2, 0, 4, 1, 1)))
	for id := int64(1); id <= 3; id++ {
		take("commit", impl.CommitC(c, id, 1, 2), saying(want, said(3, 0, id, 1, 2)))
	}
	take("a lie", impl.ForgeC(c, changing(1, 4, cert(1, 0, 1))), saying(want, changing(1, 4, cert(1, 0, 1))))
	for id := int64(1); id <= 3; id++ {
		next := saying(want, changing(1, id, cert(1, 0, 2)))
		take("change", impl.ChangeC(c, id, 1), standing(next, waiting(id, 1)))
	}
	// The change of the fourth one is at 8, and is not right.
	next := saying(want, beginning(1, 2, 9, 10, 11))
	take("new", impl.NewC(c, 2), standing(next, inNew(2, 1, 12)))
	take("adopt", impl.AdoptC(c, 1, 12), standing(want, inNew(1, 1, 12)))
	take("adopt", impl.AdoptC(c, 3, 12), standing(want, inNew(3, 1, 12)))
	take("propose", impl.ProposeC(c, 2, 1, 2), saying(want, said(1, 1, 2, 1, 2)))
	take("propose", impl.ProposeC(c, 2, 2, 1), saying(want, said(1, 1, 2, 2, 1)))
	for at, value := range []int64{2, 1} {
		slot := int64(at) + 1
		for id := int64(1); id <= 3; id++ {
			take("prepare", impl.PrepareC(c, id, 12+slot), saying(want, said(2, 1, id, slot, value)))
		}
		for id := int64(1); id <= 3; id++ {
			take("commit", impl.CommitC(c, id, slot, value), saying(want, said(3, 1, id, slot, value)))
		}
	}
	if log := impl.LogOf(1, c.Ledger); !sameInts(log, placesOf(2, 1)) {
		t.Errorf("the log is %+v, want 2 and 1", log)
	}
}

func TestClustersAskFFirst(t *testing.T) {
	fine := clusterOf(1, 2, led(), 4)
	wrong := impl.Cluster{Bad: []int64{9, 0, 9}, Replicas: make([]impl.Replica, 9), Ledger: msgs(impl.Msg{}), Requests: make([]impl.Request, 13)}
	crowd := fine
	crowd.Ledger = make([]impl.Msg, 241)
	for _, f := range noFs {
		for _, c := range []impl.Cluster{fine, wrong, crowd, {}} {
			c.F = f
			checkCluster(t, fmt.Sprintf("f %d", f), c, impl.ErrRange)
		}
	}
	checkCluster(t, "nothing at all", impl.Cluster{}, impl.ErrRange)
	checkCluster(t, "the same of f 1", fine, impl.OK)
	fine.F = 2
	checkCluster(t, "of seven three are missing", fine, impl.ErrForm)
}

// A code of the ledger comes ahead of all else that a cluster is asked.
func TestClustersAskTheLedgerFirst(t *testing.T) {
	check := func(name string, f int64, ledger []impl.Msg, want int64) {
		t.Helper()
		fine := clusterOf(f, 2, ledger)
		wrong := impl.Cluster{F: f, Bad: []int64{0, 9, 9}, Replicas: make([]impl.Replica, 9), Ledger: ledger, Requests: make([]impl.Request, 13)}
		checkCluster(t, name, fine, want)
		checkCluster(t, name, wrong, want)
	}
	for _, l := range faultyLedgers() {
		check(l.name, l.f, l.ledger, l.want)
	}
	for _, c := range faultyMsgs() {
		if c.f == 1 {
			check("led, and behind it "+c.name, 1, ledgerOf(led(), msgs(c.m)), c.want)
		}
	}
	full := clusterOf(1, 12, manyMsgs(240))
	checkCluster(t, "240 messages", full, impl.OK)
	full.Ledger = append(manyMsgs(240), newcomer)
	checkCluster(t, "241 messages", full, impl.ErrMany)
}

type badCase struct {
	name string
	f    int64
	bad  []int64
	want int64
}

// badCases are asked of NewCluster and of ClusterFault alike.
func badCases() []badCase {
	return []badCase{
		{"nil", 1, nil, impl.OK}, {"none", 1, []int64{}, impl.OK}, {"nil", 2, nil, impl.OK},
		{"the first", 1, []int64{1}, impl.OK}, {"the last", 1, []int64{4}, impl.OK}, {"one between", 1, []int64{3}, impl.OK},
		{"Id 0", 1, []int64{0}, impl.ErrRange}, {"Id 5", 1, []int64{5}, impl.ErrRange}, {"Id -1", 1, []int64{-1}, impl.ErrRange},
		{"Id 7 of four", 1, []int64{7}, impl.ErrRange}, {"the least number", 1, []int64{math.MinInt64}, impl.ErrRange}, {"the greatest number", 1, []int64{math.MaxInt64}, impl.ErrRange},
		{"two of four", 1, []int64{1, 2}, impl.ErrMany}, {"two of four, alike", 1, []int64{4, 4}, impl.ErrMany},
		{"two of four that are none", 1, []int64{0, 5}, impl.ErrMany}, {"two of four that fall", 1, []int64{2, 1}, impl.ErrMany}, {"very many", 1, make([]int64, 1<<12), impl.ErrMany},
		{"the first", 2, []int64{1}, impl.OK}, {"the last", 2, []int64{7}, impl.OK}, {"the first two", 2, []int64{1, 2}, impl.OK},
		{"the last two", 2, []int64{6, 7}, impl.OK}, {"the first and the last", 2, []int64{1, 7}, impl.OK}, {"two between", 2, []int64{3, 5}, impl.OK},
		{"Id 0", 2, []int64{0}, impl.ErrRange}, {"Id 8", 2, []int64{8}, impl.ErrRange}, {"Id 0 and another", 2, []int64{0, 1}, impl.ErrRange},
		{"another and Id 8", 2, []int64{7, 8}, impl.ErrRange}, {"Id 8 twice", 2, []int64{8, 8}, impl.ErrRange}, {"Id 0 twice", 2, []int64{0, 0}, impl.ErrRange},
		{"Id 8 ahead of what falls", 2, []int64{8, 1}, impl.ErrRange}, {"what falls to Id 0", 2, []int64{5, 0}, impl.ErrRange}, {"what falls to Id -1", 2, []int64{1, -1}, impl.ErrRange},
		{"two alike", 2, []int64{2, 2}, impl.ErrForm}, {"the last twice", 2, []int64{7, 7}, impl.ErrForm}, {"the first twice", 2, []int64{1, 1}, impl.ErrForm},
		{"two that fall", 2, []int64{2, 1}, impl.ErrForm}, {"the last two, falling", 2, []int64{7, 6}, impl.ErrForm}, {"the last and the first", 2, []int64{7, 1}, impl.ErrForm},
		{"three of seven", 2, []int64{1, 2, 3}, impl.ErrMany}, {"three that are none", 2, []int64{0, 8, 9}, impl.ErrMany}, {"three that fall", 2, []int64{3, 2, 1}, impl.ErrMany},
		{"three alike", 2, []int64{4, 4, 4}, impl.ErrMany},
	}
}

func TestClusterFaultAsksWhoIsBad(t *testing.T) {
	for _, b := range badCases() {
		c := clusterOf(b.f, 2, nil, b.bad...)
		checkCluster(t, fmt.Sprintf("%s of f %d", b.name, b.f), c, b.want)
		if b.want == impl.OK {
			continue
		}
		// Who is bad is asked ahead of who is not.
		c.Replicas = nil
		checkCluster(t, "and no replicas: "+b.name, c, b.want)
		c.Replicas = make([]impl.Replica, 7)
		c.Requests = oneByOne(13)
		checkCluster(t, "and too many requests: "+b.name, c, impl.ErrMany)
	}
}

func TestNewCluster(t *testing.T) {
	for _, b := range badCases() {
		want := noCluster(b.want)
		if b.want == impl.OK {
			want = clusterResult(clusterOf(b.f, 0, nil, b.bad...))
		}
		got := impl.NewCluster(b.f, b.bad)
		checkTold(t, fmt.Sprintf("%s of f %d", b.name, b.f), got, want)
		if b.want == impl.OK {
			checkCluster(t, b.name, got.Cluster, impl.OK)
		}
		for _, f := range noFs {
			checkTold(t, fmt.Sprintf("%s of f %d", b.name, f), impl.NewCluster(f, b.bad), noCluster(impl.ErrRange))
		}
	}
	for f, many := range map[int64]int{1: 4, 2: 7} {
		if got := impl.NewCluster(f, nil).Cluster; len(got.Replicas) != many || len(got.Ledger)+len(got.Requests)+len(got.Bad) != 0 {
			t.Errorf("f %d: %+v", f, got)
		}
		if got := impl.NewCluster(f, firstOnes(f)).Cluster; len(got.Replicas) != 2*int(f)+1 || got.Replicas[0] != inFirst(f+1) {
			t.Errorf("f %d: %+v", f, got)
		}
	}
}

func TestClusterFaultAsksWhoIsThere(t *testing.T) {
	for _, f := range []int64{1, 2} {
		for _, bad := range [][]int64{nil, {1}, {2}, {3*f + 1}} {
			fine := clusterOf(f, 2, nil, bad...)
			check := func(name string, list []impl.Replica) {
				t.Helper()
				c := fine
				c.Replicas = list
				checkCluster(t, name, c, impl.ErrForm)
				// The order is asked ahead of what each of them is, and of the requests.
				for at := range list {
					c.Replicas = slices.Clone(list)
					c.Replicas[at].View, c.Replicas[at].Done = 21, 31
					checkCluster(t, name+", and a View that is none", c, impl.ErrForm)
				}
				c.Requests = make([]impl.Request, 1)
				checkCluster(t, name+", and a request that is none", c, impl.ErrForm)
				c.Requests = make([]impl.Request, 13)
				checkCluster(t, name+", and too many requests", c, impl.ErrMany)
			}
			checkCluster(t, "all of them", fine, impl.OK)
			check("none", nil)
			all := fine.Replicas
			for at := range all {
				check("one missing", slices.Delete(slices.Clone(all), at, at+1))
				check("one twice", slices.Insert(slices.Clone(all), at, all[at]))
				for _, id := range append([]int64{0, -1, 3*f + 2, 8, math.MinInt64, math.MaxInt64}, bad...) {
					check("one more", slices.Insert(slices.Clone(all), at, inFirst(id)))
					other := slices.Clone(all)
					other[at].Id = id
					check("another one", other)
				}
				for to := range at {
					swapped := slices.Clone(all)
					swapped[at], swapped[to] = swapped[to], swapped[at]
					check("two in another order", swapped)
				}
			}
			for _, id := range append([]int64{3*f + 2}, bad...) {
				check("one more at the end", append(slices.Clone(all), inFirst(id)))
			}
			backward := slices.Clone(all)
			slices.Reverse(backward)
			check("backward", backward)
		}
	}
	checkCluster(t, "very many", impl.Cluster{F: 1, Replicas: make([]impl.Replica, 1<<12)}, impl.ErrForm)
}

func TestClusterFaultAsksEachReplica(t *testing.T) {
	// Slot 1 is decided, View 1 may begin at 7, and what is at 9 is a propose.
	fine := allStanding(clusterOf(1, 2, led()), withDone(inNew(1, 1, 7), 1), inNew(2, 1, 7), waiting(3, 20), withDone(inFirst(4), 1))
	checkCluster(t, "each in another state", fine, impl.OK)
	wrongs := []struct {
		name string
		turn func(one *impl.Replica)
		want int64
	}{
		{"View -1", func(one *impl.Replica) { one.View, one.Start = -1, -1 }, impl.ErrRange},
		{"View 21", func(one *impl.Replica) { one.View, one.Start = 21, -1 }, impl.ErrRange},
		{"Done -1", func(one *impl.Replica) { one.Done = -1 }, impl.ErrRange},
		{"Done 31", func(one *impl.Replica) { one.Done = 31 }, impl.ErrRange},
		{"a start in View 0", func(one *impl.Replica) { one.View, one.Start = 0, 7 }, impl.ErrForm},
		{"a start of another View", func(one *impl.Replica) { one.View, one.Start = 2, 7 }, impl.ErrForm},
		{"a start that is none", func(one *impl.Replica) { one.View, one.Start = 1, 9 }, impl.ErrForm},
		{"a start behind all", func(one *impl.Replica) { one.View, one.Start = 1, int64(len(led())) }, impl.ErrForm},
		{"a start ahead of all", func(one *impl.Replica) { one.View, one.Start = 1, -2 }, impl.ErrForm},
		{"Done 2", func(one *impl.Replica) { one.Done = 2 }, impl.ErrState},
		{"Done 30", func(one *impl.Replica) { one.Done = 30 }, impl.ErrState},
	}
	with := func(c impl.Cluster, at int, turn func(one *impl.Replica)) impl.Cluster {
		c.Replicas = slices.Clone(c.Replicas)
		turn(&c.Replicas[at])
		return c
	}
	for _, w := range wrongs {
		for at := range fine.Replicas {
			c := with(fine, at, w.turn)
			checkCluster(t, fmt.Sprintf("%s of that at %d", w.name, at), c, w.want)
			// The replicas are asked ahead of the requests, but for how many these are.
			c.Requests = make([]impl.Request, 1)
			checkCluster(t, w.name+", and a request that is none", c, w.want)
			c.Requests = slices.Repeat(oneByOne(1), 2)
			checkCluster(t, w.name+", and a request that is there", c, w.want)
			c.Requests = oneByOne(13)
			checkCluster(t, w.name+", and too many requests", c, impl.ErrMany)
			// One by one: of two that are wrong the code of the one ahead is told.
			for _, other := range wrongs {
				for behind := at + 1; behind < len(fine.Replicas); behind++ {
					checkCluster(t, w.name+", and behind it "+other.name, with(with(fine, behind, other.turn), at, w.turn), w.want)
				}
			}
		}
	}
}

func TestClusterFaultAsksRequests(t *testing.T) {
	many, wrong := asked(1, 1, 0), asked(9, 99, 9000, getOf("/a"), opOpen)
	list := func(parts ...[]impl.Request) []impl.Request { return slices.Concat(parts...) }
	one := oneByOne(12)
	again := func(r impl.Request) []impl.Request {
		return []impl.Request{asked(r.Client, r.Number, r.Time+1, getOf("/zzz"), setOf("/zzz", 3, -1))}
	}
	cases := []struct {
		name string
		list []impl.Request
		want int64
	}{
		{"nil", nil, impl.OK},
		{"none", []impl.Request{}, impl.OK},
		{"one", one[:1], impl.OK},
		{"12", one, impl.OK},
		{"13", oneByOne(13), impl.ErrMany},
		{"13 that are none", make([]impl.Request, 13), impl.ErrMany},
		{"13 that are the same", slices.Repeat(one[:1], 13), impl.ErrMany},
		{"very many", make([]impl.Request, 1<<12), impl.ErrMany},
		{"12 that are none", make([]impl.Request, 12), impl.ErrRange},
		{"one that is none", []impl.Request{{}}, impl.ErrRange},
		{"one without Ops", []impl.Request{many}, impl.ErrMany},
		{"one with what may not stand beside another", []impl.Request{wrong}, impl.ErrForm},
		{"one with no path", []impl.Request{asked(1, 1, 0, getOf("/A"))}, impl.ErrText},
		{"the last of 12 is none", list(one[:11], []impl.Request{{}}), impl.ErrRange},
		{"the first of 12 is none", list([]impl.Request{{}}, one[:11]), impl.ErrRange},
		{"two alike", slices.Repeat(one[:1], 2), impl.ErrTaken},
		{"12 alike", slices.Repeat(one[:1], 12), impl.ErrTaken},
		{"the last two of one Client and Number", list(one[:11], again(one[10])), impl.ErrTaken},
		{"the first and the last of one Client and Number", list(one[:11], again(one[0])), impl.ErrTaken},
		{"the first two of one Client and Number", list(one[:1], again(one[0]), one[1:11]), impl.ErrTaken},
		{"two between of one Client and Number", list(one[:5], again(one[3]), one[5:11]), impl.ErrTaken},
		{"one Client, each Number another", one[3:], impl.OK},
		{"one Number, each Client another", []impl.Request{asked(1, 5, 0, opOpen), asked(2, 5, 0, opOpen), asked(9, 5, 0, opOpen)}, impl.OK},
		{"Client and Number changed round", []impl.Request{asked(1, 2, 0, opOpen), asked(2, 1, 0, opOpen)}, impl.OK},
		{"all alike but Client and Number", []impl.Request{asked(1, 2, 0, opOpen), asked(1, 3, 0, opOpen), asked(2, 2, 0, opOpen)}, impl.OK},
		{"1 and 11, and 11 and 1", []impl.Request{asked(1, 11, 0, opOpen), asked(1, 1, 0, opOpen), asked(9, 1, 0, opOpen)}, impl.OK},
		// Request by request: what is wrong with the one ahead comes first.
		{"two alike ahead of one that is none", list(slices.Repeat(one[:1], 2), []impl.Request{{}}), impl.ErrTaken},
		{"one that is none ahead of two alike", list([]impl.Request{{}}, slices.Repeat(one[:1], 2)), impl.ErrRange},
		{"one that is none between two alike", list(one[:1], []impl.Request{wrong}, one[:1]), impl.ErrForm},
		{"two alike, of which the second has a fault", list(one[:1], []impl.Request{many}), impl.ErrMany},
		{"two alike, of which both have a fault", []impl.Request{many, many}, impl.ErrMany},
		{"two faults", []impl.Request{wrong, many}, impl.ErrForm},
		{"two faults changed round", []impl.Request{many, wrong}, impl.ErrMany},
	}
	for _, c := range cases {
		for _, base := range []impl.Cluster{clusterOf(1, 0, nil, 2), clusterOf(2, 0, manyMsgs(10))} {
			base.Requests = c.list
			checkCluster(t, c.name, base, c.want)
		}
	}
}

// Of the codes of a cluster the first that is so is told, by each function, whatever else is wrong.
func TestClusterFaultTellsTheFirstCode(t *testing.T) {
	spoils := []struct {
		code int64
		turn func(c *impl.Cluster)
	}{
		{impl.ErrTaken, func(c *impl.Cluster) { c.Ledger = append(slices.Clone(c.Ledger), c.Ledger[0]) }},
		{impl.ErrMany, func(c *impl.Cluster) { c.Requests = append(slices.Clone(c.Requests), oneByOne(13)...) }},
		{impl.ErrRange, func(c *impl.Cluster) { c.Bad = []int64{c.Bad[0], 8} }},
		{impl.ErrForm, func(c *impl.Cluster) { c.Bad = []int64{7, c.Bad[1]} }},
		{impl.ErrForm, func(c *impl.Cluster) { c.Replicas = c.Replicas[1:] }},
		{impl.ErrState, func(c *impl.Cluster) {
			c.Replicas = append(slices.Clone(c.Replicas[:1]), c.Replicas[1:]...)
			c.Replicas[0].Done = 1
		}},
		{impl.ErrText, func(c *impl.Cluster) { c.Requests = append([]impl.Request{asked(1, 1, 0, getOf("a"))}, c.Requests...) }},
		{impl.ErrTaken, func(c *impl.Cluster) { c.Requests = append(slices.Clone(c.Requests), c.Requests[0]) }},
	}
	for set := range uint(1) << len(spoils) {
		c, want := clusterOf(2, 3, manyMsgs(7), 6, 7), int64(impl.OK)
		for i := len(spoils) - 1; i >= 0; i-- {
			if set&(1<<i) != 0 {
				want = spoils[i].code
				spoils[i].turn(&c)
			}
		}
		checkCluster(t, fmt.Sprintf("%08b", set), c, want)
	}
}

// Who is told by an Id is asked ahead of what it shall do.
func TestClustersAskWhoActs(t *testing.T) {
	for _, f := range []int64{1, 2} {
		last := 3*f + 1
		for _, bad := range [][]int64{nil, {1}, {2}, {last}} {
			c := clusterOf(f, 2, manyMsgs(9), bad...)
			for _, id := range append([]int64{math.MinInt64, -1, 0, last + 1, last + 2, 8, 1<<32 + 1, math.MaxInt64}, bad...) {
				for _, call := range clusterAsks(c) {
					call.id = id
					told := programCluster(call).told
					for face := asOne; face < asForge; face++ {
						checkTold(t, fmt.Sprintf("%s by %d", clusterFaces[face], id), told[face], noCluster(impl.ErrNone))
					}
				}
			}
			for _, one := range c.Replicas {
				call := clusterAsks(c)[0]
				call.id = one.Id
				if told := programCluster(call).told; told[asOne+3].Code != impl.OK || told[asOne+5].Code != impl.ErrSign {
					t.Errorf("bad %v: ChangeC and AdoptC by %d: the codes %d and %d", bad, one.Id, told[asOne+3].Code, told[asOne+5].Code)
				}
			}
		}
	}
}

func TestOfferC(t *testing.T) {
	newer, wrong := asked(2, 50, 7, create("/a", 5), getOf("/a")), asked(2, 50, 7)
	for _, base := range []impl.Cluster{clusterOf(1, 0, nil), clusterOf(1, 0, led(), 4), clusterOf(2, 0, manyMsgs(240), 1, 7)} {
		for many := range 13 {
			c := base
			c.Requests = oneByOne(many)
			want := clusterResult(offering(c, newer))
			if many == 12 {
				want = noCluster(impl.ErrMany)
			}
			checkTold(t, "a new one", impl.OfferC(c, newer), want)
			if many < 12 {
				checkCluster(t, "behind a new one", impl.OfferC(c, newer).Cluster, impl.OK)
			}
			for i, there := range c.Requests {
				// What is asked for is all one: who asks, and under what Number, is not.
				other := asked(there.Client, there.Number, 8999, getOf("/zzz"), kidsOf("/"))
				checkTold(t, "one that is there", impl.OfferC(c, there), noCluster(impl.ErrTaken))
				checkTold(t, "one of that Client and Number", impl.OfferC(c, other), noCluster(impl.ErrTaken))
				sameClient, sameNumber := there, there
				sameClient.Number, sameNumber.Client = 99-int64(i), 9
				wants := []impl.ClusterResult{clusterResult(offering(c, sameClient)), clusterResult(offering(c, sameNumber))}
				if many == 12 {
					wants = []impl.ClusterResult{noCluster(impl.ErrMany), noCluster(impl.ErrMany)}
				}
				checkTold(t, "one of that Client alone", impl.OfferC(c, sameClient), wants[0])
				checkTold(t, "one of that Number alone", impl.OfferC(c, sameNumber), wants[1])
				other.Ops = nil
				checkTold(t, "a fault ahead of ErrTaken", impl.OfferC(c, other), noCluster(impl.ErrMany))
				other.Ops, other.Time = there.Ops, 9001
				checkTold(t, "a fault ahead of ErrTaken", impl.OfferC(c, other), noCluster(impl.ErrRange))
			}
			checkTold(t, "no Ops", impl.OfferC(c, wrong), noCluster(impl.ErrMany))
			checkTold(t, "nothing", impl.OfferC(c, impl.Request{}), noCluster(impl.ErrRange))
			checkTold(t, "no path", impl.OfferC(c, asked(2, 50, 7, getOf("/A"))), noCluster(impl.ErrText))
			checkTold(t, "two of which one stands alone", impl.OfferC(c, asked(2, 50, 7, opOpen, getOf("/a"))), noCluster(impl.ErrForm))
			checkTold(t, "very many Ops", impl.OfferC(c, asked(2, 50, 7, make([]impl.Op, 1<<12)...)), noCluster(impl.ErrMany))
		}
	}
}

func TestProposeC(t *testing.T) {
	for _, f := range []int64{1, 2} {
		for many := range 13 {
			c := clusterOf(f, many, nil, 3*f+1)
			for value := int64(-1); value <= 13; value++ {
				want := clusterResult(saying(c, said(1, 0, 1, 1, value)))
				switch {
				case value < 0 || value > 12:
					want = noCluster(impl.ErrRange)
				case value == 0:
					want = noCluster(impl.ErrForm)
				case value > int64(many):
					want = noCluster(impl.ErrNone)
				}
				checkTold(t, fmt.Sprintf("%d of %d", value, many), impl.ProposeC(c, 1, 1, value), want)
				// What may not be proposed at all is told so, whether there is such a request or not.
				wrong := int64(impl.ErrRange)
				if value >= 0 && value <= 12 {
					wrong = impl.ErrState
				}
				checkTold(t, "by another one", impl.ProposeC(c, 2, 1, value), noCluster(wrong))
				checkTold(t, "in no slot", impl.ProposeC(c, 1, 0, value), noCluster(impl.ErrRange))
				checkTold(t, "in no slot", impl.ProposeC(c, 1, 31, value), noCluster(impl.ErrRange))
				if value >= 1 && value <= 12 {
					taken := saying(c, said(1, 0, 1, 1, value))
					checkTold(t, "a slot that is taken", impl.ProposeC(taken, 1, 1, value), noCluster(impl.ErrTaken))
					checkTold(t, "a value that is proposed", impl.ProposeC(taken, 1, 2, value), noCluster(impl.ErrForm))
				}
			}
		}
		// The next slot needs the one ahead, whatever the value.
		two := clusterOf(f, 2, nil)
		checkTold(t, "slot 2 first", impl.ProposeC(two, 1, 2, 1), noCluster(impl.ErrNone))
		one := saying(two, said(1, 0, 1, 1, 2))
		checkTold(t, "slot 2 then", impl.ProposeC(one, 1, 2, 1), clusterResult(saying(one, said(1, 0, 1, 2, 1))))
	}
}

// What a view takes over is proposed there, with no request if it is 0, and not without one if it is above.
func TestProposeCWhatIsTakenOver(t *testing.T) {
	for _, f := range []int64{1, 2} {
		begins := takeover(f)
		start := len(begins) - 1
		for many := range 7 {
			c := standing(clusterOf(f, many, begins, 3), inNew(2, 1, start))
			first := impl.ProposeC(c, 2, 1, 0)
			checkTold(t, "the empty slot 1", first, clusterResult(saying(c, said(1, 1, 2, 1, 0))))
			want := noCluster(impl.ErrNone)
			if many >= 5 {
				want = clusterResult(saying(first.Cluster, said(1, 1, 2, 2, 5)))
			}
			checkTold(t, fmt.Sprintf("5 of %d requests", many), impl.ProposeC(first.Cluster, 2, 2, 5), want)
			checkTold(t, "another value", impl.ProposeC(first.Cluster, 2, 2, 4), noCluster(impl.ErrForm))
			checkTold(t, "of who waits", impl.ProposeC(standing(c, waiting(2, 1)), 2, 1, 0), noCluster(impl.ErrState))
		}
	}
}

func TestPrepareC(t *testing.T) {
	for _, f := range []int64{1, 2} {
		for many := range 13 {
			for value := int64(1); value <= 12; value++ {
				// Who leads is bad and may propose what it likes.
				c := clusterOf(f, many, msgs(said(3, 7, 1, 5, 5), said(1, 0, 1, 3, value)), 1)
				for _, one := range c.Replicas {
					want := clusterResult(saying(c, said(2, 0, one.Id, 3, value)))
					if value > int64(many) {
						want = noCluster(impl.ErrNone)
					}
					checkTold(t, fmt.Sprintf("%d of %d", value, many), impl.PrepareC(c, one.Id, 1), want)
				}
				for _, place := range beyond(2) {
					checkTold(t, "no place", impl.PrepareC(c, 2, int64(place)), noCluster(impl.ErrForm))
				}
				checkTold(t, "the place of another kind", impl.PrepareC(c, 2, 0), noCluster(impl.ErrForm))
				// That it may not be prepared is told ahead of that there is no such request.
				taken := saying(c, said(2, 0, 2, 3, 12))
				checkTold(t, "a slot that is prepared", impl.PrepareC(taken, 2, 1), noCluster(impl.ErrTaken))
				checkTold(t, "in another View", impl.PrepareC(standing(c, waiting(2, 1)), 2, 1), noCluster(impl.ErrForm))
			}
		}
		// A propose of one that does not lead, and one of nothing.
		c := clusterOf(f, 12, msgs(said(1, 0, 2, 1, 3), said(1, 0, 1, 1, 0)), 2)
		checkTold(t, "by who does not lead", impl.PrepareC(c, 3, 0), noCluster(impl.ErrForm))
		checkTold(t, "nothing in View 0", impl.PrepareC(c, 3, 1), noCluster(impl.ErrForm))
		begins := takeover(f)
		start := len(begins) - 1
		for _, many := range []int{0, 4, 5} {
			c := clusterOf(f, many, ledgerOf(begins, msgs(said(1, 1, 2, 1, 0), said(1, 1, 2, 2, 5))), 2)
			for _, one := range c.Replicas {
				begun := standing(c, inNew(one.Id, 1, start))
				checkTold(t, "an empty slot", impl.PrepareC(begun, one.Id, int64(start)+1), clusterResult(saying(begun, said(2, 1, one.Id, 1, 0))))
				want := noCluster(impl.ErrNone)
				if many == 5 {
					want = clusterResult(saying(begun, said(2, 1, one.Id, 2, 5)))
				}
				checkTold(t, "what is taken over", impl.PrepareC(begun, one.Id, int64(start)+2), want)
			}
		}
	}
}

// A commit asks for enough prepares alone: where they are there, a value needs no request.
func TestCommitC(t *testing.T) {
	for _, f := range []int64{1, 2} {
		for prepares2f := int64(0); prepares2f <= 3*f+1; prepares2f++ {
			for _, value := range []int64{0, 1, 2, 12} {
				for _, many := range []int{0, 1, 12} {
					c := clusterOf(f, many, prepares(0, 4, value, firstOnes(prepares2f)...), 3*f+1)
					for _, one := range c.Replicas {
						want := noCluster(impl.ErrSign)
						if prepares2f >= 2*f+1 {
							want = clusterResult(saying(c, said(3, 0, one.Id, 4, value)))
						}
						checkTold(t, fmt.Sprintf("%d of %d by %d", value, many, prepares2f), impl.CommitC(c, one.Id, 4, value), want)
						checkTold(t, "another slot", impl.CommitC(c, one.Id, 5, value), noCluster(impl.ErrSign))
						checkTold(t, "another value", impl.CommitC(c, one.Id, 4, value+1), noCluster([...]int64{impl.ErrSign, impl.ErrRange}[value/12]))
					}
				}
			}
		}
		enough := clusterOf(f, 5, ledgerOf(prepares(0, 4, 5, firstOnes(2*f+1)...), prepares(1, 4, 5, firstOnes(2*f+1)...)))
		checkTold(t, "no slot", impl.CommitC(enough, 1, 31, 5), noCluster(impl.ErrRange))
		checkTold(t, "no slot", impl.CommitC(enough, 1, 0, 5), noCluster(impl.ErrRange))
		checkTold(t, "no value", impl.CommitC(enough, 1, 4, -1), noCluster(impl.ErrRange))
		checkTold(t, "of who waits", impl.CommitC(standing(enough, waiting(1, 1)), 1, 4, 5), noCluster(impl.ErrState))
		taken := impl.CommitC(enough, 1, 4, 5).Cluster
		checkTold(t, "once more", impl.CommitC(taken, 1, 4, 5), noCluster(impl.ErrTaken))
		checkTold(t, "by another one", impl.CommitC(taken, 2, 4, 5), clusterResult(saying(taken, said(3, 0, 2, 4, 5))))
	}
}

func TestChangeC(t *testing.T) {
	far := []int64{math.MinInt64, -1, 21, 22, 1<<32 + 1, math.MaxInt64}
	for _, f := range []int64{1, 2} {
		for view := int64(0); view <= 20; view++ {
			c := allStanding(clusterOf(f, 1, commits(0, 3, 9, 2), 1), waiting(2, view), waiting(3, 7))
			for next := int64(0); next <= 20; next++ {
				want := noCluster(impl.ErrState)
				if next > view {
					want = clusterResult(standing(saying(c, changing(next, 2, cert(3, 0, 9))), waiting(2, next)))
				}
				checkTold(t, fmt.Sprintf("from %d to %d", view, next), impl.ChangeC(c, 2, next), want)
			}
			for _, next := range far {
				checkTold(t, "to no view", impl.ChangeC(c, 2, next), noCluster(impl.ErrRange))
			}
		}
	}
	// Who leaves a view that began is in none that has, and keeps what it has done.
	ones := []impl.Replica{withDone(inNew(1, 1, 7), 1), withDone(inNew(2, 1, 7), 1), inNew(3, 1, 7)}
	c := allStanding(clusterOf(1, 2, led(), 4), ones...)
	certs := map[int64][]impl.Cert{1: certs(cert(2, 0, 5)), 2: certs(cert(1, 1, 0)), 3: certs(cert(1, 1, 0))}
	for _, one := range ones {
		for _, next := range []int64{2, 3, 20} {
			left := impl.Replica{Id: one.Id, View: next, Start: -1, Done: one.Done}
			got := impl.ChangeC(c, one.Id, next)
			checkTold(t, "from one that began", got, clusterResult(standing(saying(c, changing(next, one.Id, certs[one.Id]...)), left)))
			checkCluster(t, "behind it", got.Cluster, impl.OK)
			checkTold(t, "to the same again", impl.ChangeC(got.Cluster, one.Id, next), noCluster(impl.ErrState))
		}
		checkTold(t, "to its own", impl.ChangeC(c, one.Id, 1), noCluster(impl.ErrState))
	}
	// What was said of it already is not said twice; it goes all the same.
	early := clusterOf(1, 0, msgs(changing(5, 2), newcomer), 4)
	checkTold(t, "said already", impl.ChangeC(early, 2, 5), clusterResult(standing(early, waiting(2, 5))))
}

func TestNewC(t *testing.T) {
	for _, f := range []int64{1, 2} {
		need := int(2*f + 1)
		for view := int64(1); view <= 20; view++ {
			primary := impl.PrimaryOf(f, view).Value
			for many := range int(3*f) + 2 {
				c := standing(clusterOf(f, 0, ledgerOf(msgs(newcomer), changesBy(view, firstOnes(int64(many))...))), waiting(primary, view))
				want := noCluster(impl.ErrSign)
				if many >= need {
					want = clusterResult(standing(saying(c, beginning(view, primary, firstOnes(int64(need))...)), inNew(primary, view, many+1)))
				}
				got := impl.NewC(c, primary)
				checkTold(t, fmt.Sprintf("%d changes to %d", many, view), got, want)
				if many >= need {
					checkCluster(t, "behind it", got.Cluster, impl.OK)
					checkTold(t, "again", impl.NewC(got.Cluster, primary), noCluster(impl.ErrState))
				}
				other := primary%(3*f+1) + 1
				checkTold(t, "by another one", impl.NewC(standing(c, waiting(other, view)), other), noCluster(impl.ErrState))
			}
		}
		checkTold(t, "in View 0", impl.NewC(clusterOf(f, 0, changesBy(0, firstOnes(2*f+1)...)), 1), noCluster(impl.ErrState))
	}
	// Where it is there already, Start is where it is, not the end.
	c := standing(clusterOf(1, 0, ledgerOf(changesBy(1, 4, 3, 1), msgs(beginning(1, 2, 0, 1, 2), newcomer, said(1, 1, 2, 1, 3)))), waiting(2, 1))
	checkTold(t, "said already", impl.NewC(c, 2), clusterResult(standing(c, inNew(2, 1, 3))))
	// What another one said of that View is not its own.
	c = standing(clusterOf(1, 0, ledgerOf(changesBy(1, 4, 3, 1), msgs(beginning(1, 4, 0, 1, 2))), 4), waiting(2, 1))
	checkTold(t, "said by a bad one", impl.NewC(c, 2), clusterResult(standing(saying(c, beginning(1, 2, 0, 1, 2)), inNew(2, 1, 4))))
}

func TestAdoptC(t *testing.T) {
	ledger := starts()
	last := len(ledger) - 1
	places := counting(last + 4)
	for _, place := range append(beyond(len(ledger)), -3) {
		places = append(places, int64(place))
	}
	for view := int64(0); view <= 20; view++ {
		for _, id := range []int64{1, 2, 4} {
			c := standing(clusterOf(1, 2, ledger, 3), waiting(id, view))
			for _, place := range places {
				want := noCluster(impl.ErrSign)
				if of, right := rightStarts[int(place)]; right && of == view {
					want = clusterResult(standing(c, inNew(id, view, int(place))))
				}
				got := impl.AdoptC(c, id, place)
				checkTold(t, fmt.Sprintf("place %d in View %d by %d", place, view, id), got, want)
				if got.Code == impl.OK {
					checkCluster(t, "behind it", got.Cluster, impl.OK)
				}
			}
		}
	}
	// Who has begun begins no more, be it there or elsewhere.
	for start, view := range rightStarts {
		c := standing(clusterOf(1, 2, ledger, 3), inNew(1, view, start))
		for _, place := range places {
			checkTold(t, "of who has begun", impl.AdoptC(c, 1, place), noCluster(impl.ErrState))
		}
	}
	// It keeps what it has done.
	c := standing(clusterOf(1, 2, led()), withDone(waiting(4, 1), 1))
	checkTold(t, "with some done", impl.AdoptC(c, 4, 7), clusterResult(standing(c, withDone(inNew(4, 1, 7), 1))))
	checkTold(t, "none bad, no message", impl.AdoptC(clusterOf(1, 0, nil), 1, -1), noCluster(impl.ErrSign))
}

// What a bad one says of a new view counts if it is right, and is nothing if it is not.
func TestAdoptCWhatWasForged(t *testing.T) {
	for _, f := range []int64{1, 2} {
		enough := counting(int(2*f + 1))
		changes := changesBy(1, lastOnes(f, 2*f+1)...)
		base := standing(clusterOf(f, 3, ledgerOf(changes, msgs(changing(2, 1), changing(1, 1, cert(1, 0, 3)))), 2), waiting(1, 1))
		other, wrong := int64(len(changes)), int64(len(changes))+1
		cases := []struct {
			name string
			m    impl.Msg
			want bool
		}{
			{"right", beginning(1, 2, enough...), true},
			{"too few", beginning(1, 2, enough[1:]...), false},
			{"none", beginning(1, 2), false},
			{"with a change to another View", beginning(1, 2, append(slices.Clone(enough[1:]), other)...), false},
			{"with a change that tells what nobody prepared", beginning(1, 2, append(slices.Clone(enough[1:]), wrong)...), false},
			{"of another View", beginning(2, 2, enough...), false},
			{"of a View that it leads, but another one", beginning(3*f+2, 2, enough...), false},
			{"another kind", said(1, 1, 2, 1, 3), false},
			{"a change", changing(2, 2), false},
		}
		for _, c := range cases {
			forged := impl.ForgeC(base, c.m)
			checkTold(t, c.name+", forged", forged, clusterResult(saying(base, c.m)))
			place := int64(len(base.Ledger))
			want := noCluster(impl.ErrSign)
			if c.want {
				want = clusterResult(standing(forged.Cluster, inNew(1, 1, int(place))))
			}
			checkTold(t, c.name, impl.AdoptC(forged.Cluster, 1, place), want)
			// A View that has not begun for it stays so, and what was forged of it is proposed in vain.
			lie := impl.ForgeC(forged.Cluster, said(1, 1, 2, 9, 2)).Cluster
			checkTold(t, c.name+": prepare", impl.PrepareC(lie, 1, place+1), noCluster(impl.ErrForm))
		}
		// Who is bad and does not lead begins nothing, however right all else is.
		third := standing(clusterOf(f, 3, changes, 3), waiting(1, 1))
		forged := impl.ForgeC(third, beginning(1, 3, enough...)).Cluster
		checkTold(t, "by who does not lead", impl.AdoptC(forged, 1, int64(len(changes))), noCluster(impl.ErrSign))
	}
}

func TestForgeC(t *testing.T) {
	kinds := func(view int64, from int64) []impl.Msg {
		return msgs(said(1, view, from, 30, 12), said(2, view, from, 1, 0), said(3, view, from, 1, 7), changing(view, from), beginning(view, from, 0, 2))
	}
	for _, f := range []int64{1, 2} {
		last := 3*f + 1
		for _, bad := range [][]int64{nil, {1}, {last}, {last - 1}} {
			c := allStanding(clusterOf(f, 2, manyMsgs(9), bad...), waiting(2, 3), waiting(3, 5))
			for id := int64(1); id <= last; id++ {
				for _, view := range []int64{0, 1, 5, 20} {
					for _, m := range kinds(view, id) {
						want := noCluster(impl.ErrSign)
						if slices.Contains(bad, id) {
							want = clusterResult(saying(c, m))
						}
						got := impl.ForgeC(c, m)
						checkTold(t, fmt.Sprintf("bad %v: %v", bad, m), got, want)
						if got.Code == impl.OK {
							checkCluster(t, "behind it", got.Cluster, impl.OK)
							checkTold(t, "again", impl.ForgeC(got.Cluster, m), got)
						}
					}
				}
				// Who says it is asked ahead of whether it names what is there.
				late := beginning(1, id, 0, 9)
				want := int64(impl.ErrSign)
				if slices.Contains(bad, id) {
					want = impl.ErrNone
				}
				checkTold(t, "a place that is none", impl.ForgeC(c, late), noCluster(want))
				late.Refs = []int64{0, 240}
				checkTold(t, "a place that none can be", impl.ForgeC(c, late), noCluster(impl.ErrRange))
			}
			for _, wrong := range faultyMsgs() {
				if wrong.f == f {
					checkTold(t, wrong.name, impl.ForgeC(c, wrong.m), noCluster(wrong.want))
				}
			}
		}
	}
	// Both that are bad, and no one else.
	two := clusterOf(2, 0, nil, 3, 6)
	for id := int64(1); id <= 7; id++ {
		want := noCluster(impl.ErrSign)
		if id == 3 || id == 6 {
			want = clusterResult(saying(two, said(3, 2, id, 4, 5)))
		}
		checkTold(t, "two that are bad", impl.ForgeC(two, said(3, 2, id, 4, 5)), want)
	}
	// What is there already changes nothing, wherever it is.
	there := clusterOf(1, 0, ledgerOf(msgs(said(2, 0, 4, 1, 1)), manyMsgs(5), msgs(changing(2, 4, cert(1, 0, 3)))), 4)
	checkTold(t, "the first one", impl.ForgeC(there, there.Ledger[0]), clusterResult(there))
	checkTold(t, "the last one", impl.ForgeC(there, there.Ledger[6]), clusterResult(there))
	checkTold(t, "one of a good one that is there", impl.ForgeC(there, there.Ledger[1]), noCluster(impl.ErrSign))
}

// chatter is what a bad one says in View 20, where nobody listens.
func chatter(many int, from int64) []impl.Msg {
	var list []impl.Msg
	for i := range int64(many) {
		list = append(list, said(1+i%3, 20, from, 1+i/3%30, i/90%13))
	}
	return list
}

// ready is a cluster, with so many messages, in which each function has something to send.
func ready(many int) impl.Cluster {
	ledger := ledgerOf(msgs(said(1, 0, 1, 1, 1)), prepares(0, 2, 5, 1, 2, 3), changesBy(1, 2, 3, 4), msgs(said(1, 0, 1, 3, 9)))
	return standing(clusterOf(1, 8, ledgerOf(ledger, chatter(many-len(ledger), 4)), 4), waiting(2, 1))
}

func TestNothingIsSentToAFullLedger(t *testing.T) {
	for _, many := range []int{8, 50, 239, 240} {
		c := ready(many)
		checkCluster(t, "ready", c, impl.OK)
		sends := func(name string, got impl.ClusterResult, next impl.Cluster) {
			t.Helper()
			want := clusterResult(next)
			if many == 240 {
				want = noCluster(impl.ErrMany)
			}
			checkTold(t, fmt.Sprintf("%s behind %d", name, many), got, want)
		}
		sends("ProposeC", impl.ProposeC(c, 1, 2, 2), saying(c, said(1, 0, 1, 2, 2)))
		sends("PrepareC", impl.PrepareC(c, 3, 0), saying(c, said(2, 0, 3, 1, 1)))
		sends("CommitC", impl.CommitC(c, 1, 2, 5), saying(c, said(3, 0, 1, 2, 5)))
		sends("ChangeC", impl.ChangeC(c, 3, 2), standing(saying(c, changing(2, 3)), waiting(3, 2)))
		sends("NewC", impl.NewC(c, 2), standing(saying(c, beginning(1, 2, 4, 5, 6)), inNew(2, 1, many)))
		sends("ForgeC", impl.ForgeC(c, newcomer), saying(c, newcomer))
		// That it may not be, and that there is no such request, is told ahead of that.
		checkTold(t, "ProposeC of no request", impl.ProposeC(c, 1, 2, 9), noCluster(impl.ErrForm))
		checkTold(t, "ProposeC of no request", impl.ProposeC(c, 1, 2, 10), noCluster(impl.ErrNone))
		checkTold(t, "PrepareC of no request", impl.PrepareC(c, 3, 7), noCluster(impl.ErrNone))
		checkTold(t, "CommitC of what is not prepared", impl.CommitC(c, 1, 1, 1), noCluster(impl.ErrSign))
		checkTold(t, "ForgeC of who is not bad", impl.ForgeC(c, said(2, 20, 3, 30, 12)), noCluster(impl.ErrSign))
		// What is there already, and what sends nothing, needs no room.
		checkTold(t, "ChangeC that is there", impl.ChangeC(c, 3, 1), clusterResult(standing(c, waiting(3, 1))))
		checkTold(t, "ForgeC of what is there", impl.ForgeC(c, changing(1, 4)), clusterResult(c))
		checkTold(t, "OfferC", impl.OfferC(c, asked(9, 9, 9, opOpen)), clusterResult(offering(c, asked(9, 9, 9, opOpen))))
		begun := c
		begun.Ledger = slices.Clone(c.Ledger)
		begun.Ledger[7] = beginning(1, 2, 4, 5, 6)
		checkTold(t, "NewC that is there", impl.NewC(begun, 2), clusterResult(standing(begun, inNew(2, 1, 7))))
		checkTold(t, "AdoptC", impl.AdoptC(begun, 2, 7), clusterResult(standing(begun, inNew(2, 1, 7))))
	}
}

func TestClustersAreWhatTheModelTells(t *testing.T) {
	t.Parallel()
	r := rand.New(rand.NewPCG(76, 1))
	faults := map[int64]int{}
	var codes [len(clusterFaces)]map[int64]int
	for at := range codes {
		codes[at] = map[int64]int{}
	}
	for range 1500 {
		c := drawnClusterCall(r)
		got, want := programCluster(c), modelCluster(c)
		if !sameClusterAnswers(got, want) {
			t.Fatalf("of %+v:\n%+v, want\n%+v", c, got, want)
		}
		faults[got.fault]++
		for at, told := range got.told {
			if got.fault == impl.OK || at == asNew {
				codes[at][told.Code]++
			}
		}
	}
	wants := [...][]int64{
		{impl.ErrRange, impl.ErrMany, impl.ErrForm},
		{impl.ErrRange, impl.ErrForm, impl.ErrTaken, impl.ErrMany},
		{impl.ErrRange, impl.ErrState, impl.ErrTaken, impl.ErrNone, impl.ErrForm},
		{impl.ErrForm, impl.ErrTaken, impl.ErrNone},
		{impl.ErrRange, impl.ErrState, impl.ErrSign, impl.ErrTaken, impl.ErrNone},
		{impl.ErrRange, impl.ErrState, impl.ErrMany, impl.ErrNone},
		{impl.ErrState, impl.ErrSign, impl.ErrNone},
		{impl.ErrState, impl.ErrSign, impl.ErrNone},
		{impl.ErrForm, impl.ErrRange, impl.ErrMany, impl.ErrSign},
	}
	for at, list := range wants {
		for _, code := range list {
			if codes[at][code] < 10 {
				t.Errorf("%s: the code %d was told only %d times", clusterFaces[at], code, codes[at][code])
			}
		}
		if codes[at][impl.OK] < 40 {
			t.Errorf("%s: OK was told only %d times", clusterFaces[at], codes[at][impl.OK])
		}
	}
	for code, least := range map[int64]int{impl.OK: 1000, impl.ErrForm: 100, impl.ErrMany: 50, impl.ErrRange: 50, impl.ErrNone: 5, impl.ErrTaken: 10, impl.ErrState: 5} {
		if faults[code] < least {
			t.Errorf("ClusterFault: the code %d was told only %d times", code, faults[code])
		}
	}
}

// clusterRun is a cluster that goes on by what its replicas may do; those that are bad say what they like.
type clusterRun struct {
	t    *testing.T
	r    *rand.Rand
	c    impl.Cluster
	did  map[string]int
	lies int
}

func decidedIn(c impl.Cluster) [][]int64 {
	var all [][]int64
	for slot := int64(1); slot <= 5; slot++ {
		all = append(all, impl.DecidedAt(c.F, c.Ledger, slot).List)
	}
	return all
}

// checkTurn asks what is so behind whatever was done: it has no fault, what was said stands there yet, at most one thing was said behind it, by who did it, and nothing that was decided turned.
func (n *clusterRun) checkTurn(name string, by int64, after impl.Cluster) {
	n.t.Helper()
	before, many := n.c, len(n.c.Ledger)
	switch {
	case impl.ClusterFault(after) != impl.OK:
		n.t.Fatalf("%s by %d: %+v has the fault %d", name, by, after, impl.ClusterFault(after))
	case after.F != before.F || !slices.Equal(after.Bad, before.Bad):
		n.t.Fatalf("%s by %d: another cluster: %+v behind %+v", name, by, after, before)
	case len(after.Ledger) < many || len(after.Ledger) > many+1 || !sameLedgers(after.Ledger[:many], before.Ledger):
		n.t.Fatalf("%s by %d: what was said turned: %+v behind %+v", name, by, after.Ledger, before.Ledger)
	case len(after.Ledger) > many && after.Ledger[many].From != by:
		n.t.Fatalf("%s by %d: another one said %+v", name, by, after.Ledger[many])
	case name != "OfferC" && !slices.EqualFunc(after.Requests, before.Requests, sameAsked):
		n.t.Fatalf("%s by %d: requests turned: %+v behind %+v", name, by, after.Requests, before.Requests)
	case name == "OfferC" && !slices.EqualFunc(after.Requests[:len(before.Requests)], before.Requests, sameAsked):
		n.t.Fatalf("requests turned: %+v behind %+v", after.Requests, before.Requests)
	}
	for at, one := range after.Replicas {
		if one != before.Replicas[at] && (one.Id != by || name == "ForgeC" || one.Done != before.Replicas[at].Done) {
			n.t.Fatalf("%s by %d: %+v behind %+v", name, by, one, before.Replicas[at])
		}
	}
	now := decidedIn(after)
	for at, values := range decidedIn(before) {
		for _, value := range values {
			if !slices.Contains(now[at], value) {
				n.t.Fatalf("%s by %d: slot %d was %d, and is %v", name, by, at+1, value, now[at])
			}
		}
		if len(now[at]) > 1 {
			n.t.Fatalf("%s by %d: slot %d has the values %v", name, by, at+1, now[at])
		}
	}
}

// take goes on with what was told, if it was.
func (n *clusterRun) take(name string, by int64, told impl.ClusterResult) {
	n.t.Helper()
	if told.Code != impl.OK {
		if !sameTold(told, noCluster(told.Code)) {
			n.t.Fatalf("%s by %d: %+v", name, by, told)
		}
		return
	}
	n.checkTurn(name, by, told.Cluster)
	n.c = told.Cluster
	n.did[name]++
}

// act lets one of the replicas do what is there to do.
func (n *clusterRun) act(id int64) {
	n.take("NewC", id, impl.NewC(n.c, id))
	for place, m := range n.c.Ledger {
		if m.Kind == impl.MsgNew {
			n.take("AdoptC", id, impl.AdoptC(n.c, id, int64(place)))
		}
	}
	for slot := int64(1); slot <= 3; slot++ {
		n.take("ProposeC", id, impl.ProposeC(n.c, id, slot, n.r.Int64N(4)))
	}
	for place, m := range n.c.Ledger {
		if m.Kind == impl.MsgPropose && n.r.IntN(5) > 0 {
			n.take("PrepareC", id, impl.PrepareC(n.c, id, int64(place)))
		}
	}
	for slot := int64(1); slot <= 3; slot++ {
		for value := range int64(4) {
			if n.r.IntN(5) > 0 {
				n.take("CommitC", id, impl.CommitC(n.c, id, slot, value))
			}
		}
	}
}

// lie lets those that are bad say something near to what the others say, and nobody say something for another one.
func (n *clusterRun) lie(view int64) {
	for id := int64(1); id <= modelReplicas[n.c.F]; id++ {
		m := drawnMsg(n.r, n.c.F, len(n.c.Ledger))
		m.From = id
		if m.Kind <= impl.MsgCommit {
			m.View, m.Slot, m.Value = max(view-n.r.Int64N(2), 0), 1+n.r.Int64N(3), n.r.Int64N(4)
		}
		if m.Kind >= impl.MsgChange && n.r.IntN(2) == 0 {
			m = n.nearView(id, view)
		}
		forged := impl.ForgeC(n.c, m)
		if !slices.Contains(n.c.Bad, id) {
			checkTold(n.t, "a lie for another one", forged, noCluster(impl.ErrSign))
			continue
		}
		if forged.Code == impl.OK && !sameClusters(forged.Cluster, saying(n.c, m)) && !sameClusters(forged.Cluster, n.c) {
			n.t.Fatalf("ForgeC of %+v: %+v behind %+v", m, forged.Cluster, n.c)
		}
		n.take("ForgeC", id, forged)
	}
}

// nearView is a change to a view, or a start of it that takes the last changes instead of the first.
func (n *clusterRun) nearView(id int64, view int64) impl.Msg {
	if n.r.IntN(2) == 0 {
		return changing(max(view, 1), id, cert(1, 0, n.r.Int64N(4)))
	}
	var refs []int64
	seen := map[int64]int{}
	for place, m := range slices.Backward(n.c.Ledger) {
		if m.Kind == impl.MsgChange && m.View == view && impl.ChangeRight(n.c.F, n.c.Ledger, int64(place)) && seen[m.From] == 0 && len(refs) <= int(2*n.c.F) {
			seen[m.From]++
			refs = append(refs, int64(place))
		}
	}
	slices.Sort(refs)
	return beginning(view, id, refs...)
}

// Promise 13: who is bad speaks for itself alone, and nothing that was decided turns, whatever is done; and what is told has no fault.
func TestWhatIsDecidedStays(t *testing.T) {
	r := rand.New(rand.NewPCG(77, 77))
	did := map[string]int{}
	decided, later, forgedStarts := 0, 0, 0
	for range 60 {
		f := 1 + r.Int64N(2)
		n := clusterRun{t: t, r: r, did: did, c: impl.NewCluster(f, drawnBad(r, f, 0)).Cluster}
		view := int64(0)
		for range 7 {
			n.take("OfferC", 0, impl.OfferC(n.c, drawnRequests(r, 1)[0]))
			for _, at := range r.Perm(len(n.c.Replicas)) {
				n.act(n.c.Replicas[at].Id)
				if r.IntN(3) == 0 {
					n.lie(view)
				}
				if id := n.c.Replicas[at].Id; r.IntN(4) > 0 {
					n.take("ChangeC", id, impl.ChangeC(n.c, id, view))
				}
			}
			view += r.Int64N(3) / 2
		}
		for _, values := range decidedIn(n.c) {
			decided += len(values)
		}
		for _, one := range n.c.Replicas {
			if one.Start >= 0 && slices.Contains(n.c.Bad, n.c.Ledger[one.Start].From) {
				forgedStarts++
			}
		}
		for _, m := range n.c.Ledger {
			if m.Kind == impl.MsgCommit && m.View > 0 && !slices.Contains(n.c.Bad, m.From) {
				later++
			}
		}
	}
	for at, name := range clusterFaces {
		if at != asNew && did[name] < 30 {
			t.Errorf("done: %v", did)
		}
	}
	if decided < 40 || later < 30 || forgedStarts < 5 {
		t.Errorf("only %d slots were decided, %d commits were of later views, %d starts were forged", decided, later, forgedStarts)
	}
}

// Promise 13, of whatever cluster: what is told has no fault, is what it was but for what was done, and tells of a slot what was told of it.
func TestTurnsHaveNoFault(t *testing.T) {
	r := rand.New(rand.NewPCG(78, 78))
	turned := 0
	for range 500 {
		c := drawnFineCluster(r)
		before := impl.LogOf(c.c.F, c.c.Ledger).List
		for at, told := range programCluster(c).told {
			if told.Code != impl.OK || at == asNew {
				continue
			}
			turned++
			after := told.Cluster
			if code := impl.ClusterFault(after); code != impl.OK {
				t.Fatalf("%s: %+v has the fault %d", clusterFaces[at], after, code)
			}
			log, slot := impl.LogOf(c.c.F, after.Ledger).List, 1+r.Int64N(30)
			if len(log) < len(before) || !slices.Equal(impl.DecidedAt(c.c.F, after.Ledger[:len(c.c.Ledger)], slot).List, impl.DecidedAt(c.c.F, c.c.Ledger, slot).List) {
				t.Fatalf("%s: the log is %v behind %v", clusterFaces[at], log, before)
			}
			for _, value := range impl.DecidedAt(c.c.F, c.c.Ledger, slot).List {
				if !slices.Contains(impl.DecidedAt(c.c.F, after.Ledger, slot).List, value) {
					t.Fatalf("%s: slot %d is %d no more", clusterFaces[at], slot, value)
				}
			}
			if at == asForge && !sameClusters(after, saying(c.c, after.Ledger[len(c.c.Ledger):]...)) {
				t.Fatalf("ForgeC: %+v behind %+v", after, c.c)
			}
		}
	}
	if turned < 1000 {
		t.Errorf("only %d turns", turned)
	}
}

// Promise 1: every argument has an answer, however long a list is or how odd its numbers are; no panic leaves the package.
func TestEveryClusterIsAnswered(t *testing.T) {
	far := []int64{math.MinInt64, -1, 0, 1, 2, 3, 4, 5, 7, 8, 12, 13, 20, 21, 240, math.MaxInt64}
	longs := [][]int64{nil, {}, {1}, {4}, {1, 2}, {7, 1}, counting(1 << 9)}
	for i, f := range far {
		for j, n := range far {
			for k, other := range far {
				odd := said(far[(i+j)%len(far)], n, other, far[(i+k)%len(far)], far[(j+k)%len(far)])
				list := odd
				list.Certs, list.Refs = make([]impl.Cert, 1<<9), []int64{n, other, math.MaxInt64}
				ledgers := [][]impl.Msg{nil, {}, led(), {odd}, {list}, append(led(), odd), slices.Repeat(msgs(odd), 1<<9), led(), starts()}
				bad := longs[(i+k)%len(longs)]
				c := clusterCall{c: impl.Cluster{F: f, Bad: bad, Ledger: ledgers[(i+j+k)%len(ledgers)]}, f: other, bad: longs[j%len(longs)], r: asked(n, other, n, make([]impl.Op, max(min(n, 1<<9), 0))...), id: n, next: cert(n, 0, other), place: other, done: cert(other, 0, n), view: n, start: other, m: odd}
				c.c.Replicas = []impl.Replica{{Id: n, View: other, Start: n, Done: other}}
				c.c.Requests = []impl.Request{c.r}
				if k%2 == 0 {
					c.c = clusterOf(1+int64(i)%2, j%13, c.c.Ledger, longs[i%4]...)
					c.c.Replicas[k%3] = impl.Replica{Id: c.c.Replicas[k%3].Id, View: int64(j) % 3, Start: []int64{-1, 7, n}[i%3], Done: int64(k) % 3 / 2}
					c.id = c.c.Replicas[k%3].Id
				}
				if k%5 == 0 {
					c.m, c.c.Replicas = list, slices.Repeat(c.c.Replicas, 1+k%2*99)
				}
				if got, want := answersOf(t, programCluster, c), modelCluster(c); !sameClusterAnswers(got, want) {
					t.Fatalf("of %.300s: %+v, want %+v", fmt.Sprint(c), got, want)
				}
			}
		}
	}
}

// Promise 1: an answer hangs on the arguments alone, so it is the same in whatever order it is asked.
func TestClusterAnswersHangOnArgumentsAlone(t *testing.T) {
	r := rand.New(rand.NewPCG(79, 79))
	checkAgain(t, drawnMany(r, 150, drawnClusterCall), programCluster, sameClusterAnswers)
}

func ownCluster(c impl.Cluster) impl.Cluster {
	c.Bad, c.Replicas, c.Ledger, c.Requests = roomy(c.Bad), roomy(c.Replicas), ownLedger(c.Ledger), ownRequests(c.Requests)
	return c
}

// drawnOwnClusterCall draws a call of which nothing lies where anything else does.
func drawnOwnClusterCall(r *rand.Rand) clusterCall {
	c := drawnClusterCall(r)
	c.c, c.bad, c.r, c.m = ownCluster(c.c), roomy(c.bad), ownRequest(c.r), ownMsg(c.m)
	return c
}

// span is where a list or a text lies.
type span struct {
	from uintptr
	to   uintptr
}

// spanOf has nothing where there is no room.
func spanOf[T any](list []T) []span {
	if cap(list) == 0 {
		return nil
	}
	from := uintptr(unsafe.Pointer(unsafe.SliceData(list)))
	return []span{{from, from + uintptr(cap(list))*unsafe.Sizeof(*new(T))}}
}

func spansOfMsg(m impl.Msg) []span {
	return append(spanOf(m.Certs), spanOf(m.Refs)...)
}

func spansOfRequest(r impl.Request) []span {
	all := spanOf(r.Ops)
	for _, o := range r.Ops {
		if o.Path != "" {
			from := uintptr(unsafe.Pointer(unsafe.StringData(o.Path)))
			all = append(all, span{from, from + uintptr(len(o.Path))})
		}
	}
	return all
}

func spansOfCluster(c impl.Cluster) []span {
	all := slices.Concat(spanOf(c.Bad), spanOf(c.Replicas), spanOf(c.Ledger), spanOf(c.Requests))
	for _, m := range c.Ledger {
		all = append(all, spansOfMsg(m)...)
	}
	for _, r := range c.Requests {
		all = append(all, spansOfRequest(r)...)
	}
	return all
}

func spansApart(all []span) bool {
	slices.SortFunc(all, func(a span, b span) int { return cmp.Compare(a.from, b.from) })
	for i := 1; i < len(all); i++ {
		if all[i].from < all[i-1].to {
			return false
		}
	}
	return true
}

// wipeCluster writes over all that a cluster's lists have room for.
func wipeCluster(c impl.Cluster) {
	wipeLedger(c.Ledger)
	for _, r := range c.Requests {
		clear(r.Ops[:cap(r.Ops)])
	}
	clear(c.Bad[:cap(c.Bad)])
	clear(c.Replicas[:cap(c.Replicas)])
	clear(c.Requests[:cap(c.Requests)])
}

// Promise 1: what is answered shares no memory with what is handed in, nor one answer with another, nor two lists of one.
func TestClusterAnswersAreNewMemory(t *testing.T) {
	r := rand.New(rand.NewPCG(80, 80))
	told := 0
	for range 250 {
		c := drawnOwnClusterCall(r)
		first, second, want := programCluster(c), programCluster(c), modelCluster(c)
		all := slices.Concat(spansOfCluster(c.c), spanOf(c.bad), spansOfRequest(c.r), spansOfMsg(c.m))
		for at := range first.told {
			all = slices.Concat(all, spansOfCluster(first.told[at].Cluster), spansOfCluster(second.told[at].Cluster))
			want.told[at].Cluster = ownCluster(want.told[at].Cluster)
			told += len(first.told[at].Cluster.Ledger)
		}
		if !spansApart(all) {
			t.Fatalf("of %+v: %+v shares memory", c, first)
		}
		for _, one := range first.told {
			wipeCluster(one.Cluster)
		}
		if !sameClusterAnswers(second, want) || !sameClusterAnswers(programCluster(c), want) {
			t.Fatalf("of %+v: who writes into an answer turns another", c)
		}
		wipeCluster(c.c)
		clear(c.bad[:cap(c.bad)])
		clear(c.r.Ops[:cap(c.r.Ops)])
		wipeLedger(msgs(c.m))
		if !sameClusterAnswers(second, want) {
			t.Fatalf("the answer turned with what was handed in: %+v, want %+v", second, want)
		}
	}
	if told < 10000 {
		t.Errorf("only %d messages were told", told)
	}
}

// wholeCluster has all that the lists of a cluster have room for.
func wholeCluster(c impl.Cluster) impl.Cluster {
	c.Bad, c.Replicas, c.Ledger, c.Requests = c.Bad[:cap(c.Bad)], c.Replicas[:cap(c.Replicas)], wholeLedger(c.Ledger), wholeRequests(c.Requests)
	return c
}

// Promise 1: no call changes the cluster, its lists, or the Certs, Refs and Ops in them, nor what lies behind them.
func TestClusterArgumentsStayAsTheyAre(t *testing.T) {
	r := rand.New(rand.NewPCG(81, 81))
	for range 400 {
		c := drawnOwnClusterCall(r)
		handed := func() clusterCall {
			whole := c
			whole.c, whole.bad = wholeCluster(c.c), c.bad[:cap(c.bad)]
			whole.r.Ops, whole.m = c.r.Ops[:cap(c.r.Ops)], wholeMsg(c.m)
			return whole
		}
		old := handed()
		old.c, old.bad, old.r, old.m = ownCluster(old.c), roomy(old.bad), ownRequest(old.r), ownMsg(old.m)
		programCluster(c)
		now := handed()
		if !sameClusters(now.c, old.c) || !slices.Equal(now.bad, old.bad) || !sameAsked(now.r, old.r) || !equalMsgs(now.m, old.m) {
			t.Fatalf("changed: %+v", c)
		}
	}
}
