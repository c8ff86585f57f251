package tests

import (
	"fmt"
	"math/rand/v2"
	"slices"
	"testing"

	"loop.example/g00369/impl"
)

// checkStory asks what promise 16 tells of a cluster that came of a new one, but for what clients believe.
func checkStory(t *testing.T, name string, c impl.Cluster) {
	t.Helper()
	if !impl.SafeRight(c) || !impl.HonestRight(c) || !impl.AlikeRight(c) {
		t.Fatalf("%s: %t, %t, %t of %+v", name, impl.SafeRight(c), impl.HonestRight(c), impl.AlikeRight(c), c)
	}
}

// checkBelieved asks of each request, and of some that nobody offered, whether what a client believes is so, whatever those say who are bad.
func checkBelieved(t *testing.T, r *rand.Rand, c impl.Cluster) (believes int) {
	t.Helper()
	for _, asked := range append(drawnRequests(r, 2), c.Requests...) {
		gathered := impl.GatherC(c, asked.Client, asked.Number).Votes
		replies := drawnMany(r, 2, drawnReply)
		for _, v := range gathered {
			replies = append(replies, repliesBeside(v.Reply)[:3]...)
		}
		for many := range 2 {
			var lies []impl.Vote
			if len(c.Bad) > 0 {
				lies = drawnVotes(r, many*r.IntN(12), c.Bad, replies)
			}
			if !impl.TrueRight(c, asked.Client, asked.Number, lies) {
				t.Fatalf("of %+v, with the lies %+v: what is believed of %+v is not so", c, lies, asked)
			}
			if told := impl.AskC(c, asked.Client, asked.Number, lies); told.Code == impl.OK {
				believes++
			}
		}
	}
	return believes
}

// checkTrees lets of any two the one that is behind do what the other one has done: then their trees are the same.
func checkTrees(t *testing.T, c impl.Cluster) {
	t.Helper()
	most := slices.MaxFunc(c.Replicas, func(a impl.Replica, b impl.Replica) int { return int(a.Done - b.Done) })
	want := impl.StateC(c, most.Id)
	if want.Code != impl.OK {
		t.Fatalf("the state of %d in %+v: the code %d", most.Id, c, want.Code)
	}
	log := impl.ValuesC(c, most.Id).List
	for _, one := range c.Replicas {
		if did := impl.ValuesC(c, one.Id).List; !slices.Equal(did, log[:len(did)]) {
			t.Fatalf("%d has done %v and %d %v in %+v", one.Id, did, most.Id, log, c)
		}
		up := c
		for range most.Done - one.Done {
			up = impl.DoneC(up, one.Id).Cluster
		}
		if got := impl.StateC(up, one.Id); got.Code != impl.OK || !impl.SameStates(got.State, want.State) || !impl.SameTrees(got.State.Nodes, want.State.Nodes) {
			t.Fatalf("%d and %d have done the same in %+v, but %+v is not %+v", one.Id, most.Id, c, got, want)
		}
	}
}

// checkDrained asks what is so where all go on to one view: each request is decided, once, and done by each; what was decided ahead stays.
func checkDrained(t *testing.T, before impl.Cluster, after impl.Cluster) {
	t.Helper()
	checkStory(t, "drained", after)
	log, was := impl.LogOf(after.F, after.Ledger).List, impl.LogOf(before.F, before.Ledger).List
	if len(log) < len(was) || !slices.Equal(log[:len(was)], was) || len(impl.WaitingC(after).List) > 0 {
		t.Fatalf("of %+v: the log %v behind %v", before, log, was)
	}
	for _, one := range after.Replicas {
		if one.Done != int64(len(log)) || one.View != impl.ViewFor(before).Value {
			t.Fatalf("of %+v: %+v has not done %v", before, one, log)
		}
		for _, asked := range after.Requests {
			if told := impl.ReplyC(after, one.Id, asked.Client, asked.Number); told.Code != impl.OK {
				t.Fatalf("of %+v: %d tells the code %d of %+v", before, one.Id, told.Code, asked)
			}
		}
	}
	checkTrees(t, after)
}

// schemer is a cluster of four that goes on by steps of any kind; the one that is bad, if there is one, says what could part the others.
type schemer struct {
	r    *rand.Rand
	c    impl.Cluster
	view int64
	did  map[string]int
}

// draw draws one step, which may come to a code.
func (n *schemer) draw() (string, impl.ClusterResult) {
	one := drawn(n.r, n.c.Replicas)
	lead := modelPrimary(1, one.View).Value
	switch kind := n.r.IntN(40); {
	case kind == 0 && len(n.c.Requests) < 4:
		return "OfferC", impl.OfferC(n.c, drawnOffered(n.r, 1)[0])
	case kind < 5:
		return "ChangeC", impl.ChangeC(n.c, one.Id, n.view-n.r.Int64N(6)/4)
	case kind < 8:
		return "NewC", impl.NewC(n.c, lead)
	case kind < 14:
		return "AdoptC", impl.AdoptC(n.c, one.Id, n.placeOf(impl.MsgNew, one.View))
	case kind < 18:
		return "ProposeC", impl.ProposeC(n.c, lead, 1+n.r.Int64N(3), n.r.Int64N(4))
	case kind < 25:
		return "PrepareC", impl.PrepareC(n.c, one.Id, n.placeOf(impl.MsgPropose, one.View))
	case kind < 34:
		if at := n.placeOf(impl.MsgPrepare, one.View); at >= 0 {
			return "CommitC", impl.CommitC(n.c, one.Id, n.c.Ledger[at].Slot, n.c.Ledger[at].Value)
		}
	case kind == 34:
		return "DoneC", impl.DoneC(n.c, one.Id)
	case kind < 37 && len(n.c.Bad) > 0:
		return "ForgeC", impl.ForgeC(n.c, n.lie(n.c.Bad[0]))
	}
	return "nothing", noCluster(impl.ErrNone)
}

// placeOf draws a message of a kind and view; -1 where there is none.
func (n *schemer) placeOf(kind int64, view int64) int64 {
	var places []int64
	for at, m := range n.c.Ledger {
		if m.Kind == kind && m.View == view {
			places = append(places, int64(at))
		}
	}
	if len(places) == 0 {
		return -1
	}
	return drawn(n.r, places)
}

// lie draws what may part the others: of one slot two values, votes for all that anybody says, changes that tell less than there is, starts with other changes.
func (n *schemer) lie(id int64) impl.Msg {
	view := n.view
	leads := modelPrimary(1, view).Value == id
	switch kind := n.r.IntN(20); {
	case leads && kind < 5:
		return said(1, view, id, 1+n.r.Int64N(3)/2, n.r.Int64N(4))
	case leads && kind < 9:
		return beginning(view, id, n.refs(view)...)
	case kind == 19:
		return drawnMsgOf(n.r, id, len(n.c.Ledger))
	}
	if at := n.placeOf(1+n.r.Int64N(2), view); at >= 0 && n.r.IntN(3) > 0 {
		m := n.c.Ledger[at]
		return said(2+n.r.Int64N(2), view, id, m.Slot, m.Value)
	}
	at := n.placeOf(impl.MsgPrepare, n.r.Int64N(view+1))
	if at < 0 || n.c.Ledger[at].View >= view || n.r.IntN(3) == 0 {
		return changing(view, id)
	}
	m := n.c.Ledger[at]
	return changing(view, id, cert(m.Slot, m.View, m.Value))
}

// drawnMsgOf draws any message of one of four.
func drawnMsgOf(r *rand.Rand, id int64, places int) impl.Msg {
	m := drawnMsg(r, 1, places)
	m.From = id
	return m
}

// refs draws changes to a view, most often such as may begin it.
func (n *schemer) refs(view int64) []int64 {
	var refs []int64
	from := map[int64]bool{}
	for _, at := range n.r.Perm(len(n.c.Ledger)) {
		m := n.c.Ledger[at]
		if m.Kind == impl.MsgChange && m.View == view && len(refs) < 3 && (!from[m.From] || n.r.IntN(9) == 0) {
			from[m.From] = true
			refs = append(refs, int64(at))
		}
	}
	slices.Sort(refs)
	return refs
}

// step does something, if there is anything to be found.
func (n *schemer) step() {
	if n.r.IntN(20) == 0 && n.view < 9 {
		n.view++
	}
	for range 40 {
		if name, told := n.draw(); told.Code == impl.OK && !sameClusters(told.Cluster, n.c) {
			n.c = told.Cluster
			n.did[name]++
			return
		}
	}
}

// parted counts the slots in which two that are not bad prepared two values in one view.
func (n *schemer) parted() int {
	told := map[[2]int64]map[int64]bool{}
	for _, m := range n.c.Ledger {
		if m.Kind == impl.MsgPrepare && !slices.Contains(n.c.Bad, m.From) {
			key := [2]int64{m.View, m.Slot}
			if told[key] == nil {
				told[key] = map[int64]bool{}
			}
			told[key][m.Value] = true
		}
	}
	many := 0
	for _, values := range told {
		if len(values) > 1 {
			many++
		}
	}
	return many
}

// drain asks what comes where all go on to one view; the cluster goes on as it is.
func (n *schemer) drain(t *testing.T) int {
	t.Helper()
	after := impl.DrainC(n.c)
	if after.Code != impl.OK {
		return 0
	}
	checkDrained(t, n.c, after.Cluster)
	checkBelieved(t, n.r, after.Cluster)
	return 1
}

// Promise 16: four of which at most one is bad, up to 60 steps from a new cluster on.
func TestFourTellOneStory(t *testing.T) {
	t.Parallel()
	r := rand.New(rand.NewPCG(104, 104))
	did := map[string]int{}
	decided, late, parted, forged, drained, believes := 0, 0, 0, 0, 0, 0
	for range 150 {
		n := schemer{r: r, did: did, c: impl.NewCluster(1, drawn(r, [][]int64{nil, {1}, {1}, {2}, {2}, {3}, {4}})).Cluster}
		for _, one := range drawnOffered(r, 3) {
			n.c = impl.OfferC(n.c, one).Cluster
		}
		for at := range 57 {
			n.step()
			checkStory(t, "behind a step", n.c)
			if at%14 == 0 {
				believes += checkBelieved(t, r, n.c)
				checkTrees(t, n.c)
			}
			if at%25 == 9 {
				drained += n.drain(t)
			}
		}
		for slot := int64(1); slot <= 3; slot++ {
			decided += len(impl.DecidedAt(1, n.c.Ledger, slot).List)
		}
		for _, one := range n.c.Replicas {
			if one.Start >= 0 && slices.Contains(n.c.Bad, n.c.Ledger[one.Start].From) {
				forged++
			}
		}
		for _, m := range n.c.Ledger {
			if m.Kind == impl.MsgCommit && m.View > 0 && !slices.Contains(n.c.Bad, m.From) {
				late++
			}
		}
		parted += n.parted()
		drained += n.drain(t)
	}
	if decided < 150 || late < 300 || parted < 5 || forged < 30 || drained < 430 || believes < 1000 {
		t.Errorf("%d decided, %d commits of later views, %d slots parted, %d begun by a bad one, %d drained, %d believed", decided, late, parted, forged, drained, believes)
	}
	for _, name := range []string{"OfferC", "ChangeC", "NewC", "AdoptC", "ProposeC", "PrepareC", "CommitC", "DoneC", "ForgeC"} {
		if did[name] < 50 {
			t.Errorf("done: %v", did)
		}
	}
}

// tale is a cluster that goes on by what is done on purpose: each step is one that may be done, and behind each all is right.
type tale struct {
	t *testing.T
	c impl.Cluster
}

// newTale is a tale of a new cluster, to which so many requests are offered.
func newTale(t *testing.T, f int64, many int, bad ...int64) *tale {
	t.Helper()
	n := &tale{t: t}
	n.take("new", impl.NewCluster(f, bad))
	for _, one := range oneByOne(many) {
		n.take("offer", impl.OfferC(n.c, one))
	}
	return n
}

func (n *tale) take(name string, told impl.ClusterResult) {
	n.t.Helper()
	if told.Code != impl.OK {
		n.t.Fatalf("%s: the code %d behind %+v", name, told.Code, n.c)
	}
	n.c = told.Cluster
	checkStory(n.t, name, n.c)
}

// refuse is for what may not be done.
func (n *tale) refuse(name string, told impl.ClusterResult, code int64) {
	n.t.Helper()
	checkTold(n.t, name, told, noCluster(code))
}

func (n *tale) lie(list ...impl.Msg) {
	n.t.Helper()
	for _, m := range list {
		n.take("a lie", impl.ForgeC(n.c, m))
	}
}

// propose tells the place of what is proposed.
func (n *tale) propose(lead int64, slot int64, value int64) int64 {
	n.t.Helper()
	n.take("propose", impl.ProposeC(n.c, lead, slot, value))
	return int64(len(n.c.Ledger)) - 1
}

func (n *tale) prepare(place int64, ids ...int64) {
	n.t.Helper()
	for _, id := range ids {
		n.take("prepare", impl.PrepareC(n.c, id, place))
	}
}

func (n *tale) commit(slot int64, value int64, ids ...int64) {
	n.t.Helper()
	for _, id := range ids {
		n.take("commit", impl.CommitC(n.c, id, slot, value))
	}
}

// decide lets some say all that there is to be said of a slot.
func (n *tale) decide(lead int64, slot int64, value int64, ids ...int64) {
	n.t.Helper()
	n.prepare(n.propose(lead, slot, value), ids...)
	n.commit(slot, value, ids...)
}

func (n *tale) leave(view int64, ids ...int64) {
	n.t.Helper()
	for _, id := range ids {
		n.take("change", impl.ChangeC(n.c, id, view))
	}
}

// begin lets some begin where lead does.
func (n *tale) begin(lead int64, ids ...int64) {
	n.t.Helper()
	n.take("begin", impl.NewC(n.c, lead))
	n.adopt(int64(len(n.c.Ledger))-1, ids...)
}

func (n *tale) adopt(place int64, ids ...int64) {
	n.t.Helper()
	for _, id := range ids {
		n.take("adopt", impl.AdoptC(n.c, id, place))
	}
}

func (n *tale) do(many int, ids ...int64) {
	n.t.Helper()
	for _, id := range ids {
		for range many {
			n.take("do", impl.DoneC(n.c, id))
		}
	}
}

// drains lets all go on to one view: what is done then are these values, slot by slot.
func (n *tale) drains(name string, want ...int64) {
	n.t.Helper()
	got := impl.DrainC(n.c)
	checkTold(n.t, name, got, modelDrainC(n.c))
	if got.Code != impl.OK {
		n.t.Fatalf("%s: the code %d of %+v", name, got.Code, n.c)
	}
	checkDrained(n.t, n.c, got.Cluster)
	if log := impl.LogOf(n.c.F, got.Cluster.Ledger).List; !slices.Equal(log, want) {
		n.t.Errorf("%s, of %+v: the log %v, want %v", name, n.c, log, want)
	}
	n.c = got.Cluster
}

func TestDrainCOfRequestsOnTheirWay(t *testing.T) {
	for _, f := range []int64{1, 2} {
		good := firstOnes(2*f + 1)
		n := newTale(t, f, 5, lastOnes(f, f)[f-1:]...)
		all := modelIds(n.c.Replicas)
		n.decide(1, 1, 3, all...)
		n.do(1, 2)
		n.decide(1, 2, 5, good...)
		// Of the third slot one alone has committed what enough have prepared; the fourth is prepared by enough, the fifth by too few, the sixth proposed alone.
		n.prepare(n.propose(1, 3, 2), good...)
		n.commit(3, 2, 3)
		n.prepare(n.propose(1, 4, 4), good...)
		n.prepare(n.propose(1, 5, 1), good[1:]...)
		n.drains("some of each", 3, 5, 2, 1, 4)
		n.take("offer", impl.OfferC(n.c, asked(7, 7, 7, opOpen)))
		n.drains("one more", 3, 5, 2, 1, 4, 6)
		n = newTale(t, f, 2)
		n.drains("offered alone", 1, 2)
		n = newTale(t, f, 2)
		n.propose(1, 1, 2)
		n.drains("proposed alone", 1, 2)
		n = newTale(t, f, 2)
		n.prepare(n.propose(1, 1, 2), good...)
		n.drains("prepared and not committed", 1, 2)
		n = newTale(t, f, 2)
		n.decide(1, 1, 2, good...)
		n.drains("decided and not done", 2, 1)
		n = newTale(t, f, 2)
		n.decide(1, 1, 2, good...)
		n.do(1, good...)
		n.drains("decided and done by some", 2, 1)
	}
}

// Slots that nobody committed are empty where one behind them was committed, and stay so in all views behind.
func TestDrainCOfEmptySlots(t *testing.T) {
	for _, f := range []int64{1, 2} {
		all := firstOnes(3*f + 1)
		three := func(commit func(n *tale)) *tale {
			n := newTale(t, f, 4)
			for slot := int64(1); slot <= 3; slot++ {
				n.prepare(n.propose(1, slot, slot), all...)
			}
			commit(n)
			return n
		}
		n := three(func(n *tale) { n.commit(3, 3, 1) })
		n.drains("two ahead", 0, 0, 3, 1, 2, 4)
		n.drains("two ahead, again", 0, 0, 3, 1, 2, 4)
		n = three(func(n *tale) { n.commit(2, 2, 2) })
		n.drains("one ahead", 0, 2, 1, 3, 4)
		n = three(func(n *tale) { n.commit(1, 1, all...); n.commit(3, 3, 3) })
		n.do(1, 1, 2)
		n.drains("one between", 1, 0, 3, 2, 4)
		n.take("offer", impl.OfferC(n.c, asked(7, 7, 7, opOpen)))
		n.drains("one between, again", 1, 0, 3, 2, 4, 5)
		n = three(func(n *tale) { n.commit(1, 1, 2*f+1); n.commit(2, 2, 1) })
		n.drains("none, as each was committed by one", 1, 2, 3, 4)
		// Those whose changes begin the next view do not tell of the third slot, so there the empty one is the last that is taken over.
		n = three(func(n *tale) { n.commit(1, 1, 2); n.commit(3, 3, 3*f+1) })
		some := append([]int64{2}, all[f+1:]...)
		n.leave(1, some...)
		n.begin(2, some[1:]...)
		n.prepare(n.propose(2, 1, 1), some...)
		n.prepare(n.propose(2, 2, 0), some...)
		n.refuse("another value in the third slot", impl.ProposeC(n.c, 2, 3, 2), impl.ErrForm)
		n.commit(1, 1, 2)
		n.commit(2, 0, 2)
		n.drains("one behind", 1, 0, 2, 3, 4)
		n.drains("one behind, again", 1, 0, 2, 3, 4)
	}
}

// Who leads the views ahead of the one that all go on to is bad: each of the two begins its view and tells two things there; nothing comes of that but what is right.
func TestDrainCBehindBadPrimaries(t *testing.T) {
	n := newTale(t, 2, 3, 2, 3)
	n.decide(1, 1, 3, 1, 4, 5, 6, 7)
	n.do(1, 5, 7)
	at := int64(len(n.c.Ledger))
	n.leave(1, 4, 5, 6, 7)
	n.lie(changing(1, 2), beginning(1, 2, at, at+1, at+2, at+3, at+4))
	n.lie(said(1, 1, 2, 1, 2), said(1, 1, 2, 1, 3), said(1, 1, 2, 2, 1), said(1, 1, 2, 2, 2))
	n.adopt(at+5, 4, 5, 6, 7)
	n.refuse("another value than the one that is decided", impl.PrepareC(n.c, 4, at+6), impl.ErrForm)
	n.prepare(at+7, 4, 5)
	n.prepare(at+8, 4, 5)
	n.prepare(at+9, 6, 7)
	n.lie(slices.Concat(prepares(1, 2, 1, 2, 3), prepares(1, 2, 2, 2, 3), commits(1, 2, 1, 2, 3), commits(1, 2, 2, 2, 3))...)
	n.refuse("prepared by one too few", impl.CommitC(n.c, 4, 2, 1), impl.ErrSign)
	n.refuse("prepared by one too few", impl.CommitC(n.c, 6, 2, 2), impl.ErrSign)
	at = int64(len(n.c.Ledger))
	n.leave(2, 1, 4, 5)
	n.lie(changing(2, 2), changing(2, 3, cert(2, 1, 1)), beginning(2, 3, at, at+1, at+2, at+3, at+4))
	n.refuse("begun with what too few have prepared", impl.AdoptC(n.c, 1, at+5), impl.ErrSign)
	n.lie(changing(2, 3), beginning(2, 3, at, at+1, at+2, at+3, at+6), said(1, 2, 3, 1, 3), said(1, 2, 3, 2, 2))
	n.adopt(at+7, 1, 4, 5)
	n.prepare(at+8, 1, 4, 5)
	n.prepare(at+9, 1, 4, 5)
	n.lie(slices.Concat(prepares(2, 1, 3, 2, 3), prepares(2, 2, 2, 2, 3))...)
	n.commit(1, 3, 1)
	n.commit(2, 2, 4)
	n.drains("the one that has prepared it last is taken over", 3, 2, 1)
	for _, one := range n.c.Replicas {
		if one.View != 3 {
			t.Errorf("%+v is not in the view that the first of those who are not bad leads", one)
		}
	}
}

// What was said ahead of its begin in the view that all go on to counts for no more than it is.
func TestDrainCBehindForgedMessages(t *testing.T) {
	noise := func(view int64, id int64) []impl.Msg {
		return ledgerOf(prepares(view, 1, 1, id), prepares(view, 1, 2, id), commits(view, 1, 1, id), commits(view, 1, 2, id), commits(view, 9, 3, id), msgs(said(1, view, id, 1, 2), said(1, view, id, 7, 3), beginning(view, id)))
	}
	for _, early := range []bool{true, false} {
		check := func(name string, view int64, id int64, m impl.Msg, want ...int64) {
			t.Helper()
			n := newTale(t, 1, 3, id)
			good := modelIds(n.c.Replicas)
			if early {
				n.lie(noise(view, id)...)
			}
			if id == 1 {
				n.lie(said(1, 0, 1, 1, 3), said(1, 0, 1, 2, 2))
			} else {
				n.propose(1, 1, 3)
				n.propose(1, 2, 2)
			}
			place := int64(len(n.c.Ledger)) - 2
			n.prepare(place, good...)
			n.prepare(place+1, good[1:]...)
			n.lie(m)
			if !early {
				n.lie(noise(view, id)...)
			}
			n.drains(fmt.Sprintf("%s by %d, early: %t", name, id, early), want...)
		}
		for _, id := range []int64{1, 3, 4} {
			check("a change that tells nothing", 1, id, changing(1, id), 1, 2, 3)
			check("a change that tells what is prepared", 1, id, changing(1, id, cert(1, 0, 3)), 3, 1, 2)
			check("a change that tells what too few have prepared", 1, id, changing(1, id, cert(2, 0, 2)), 1, 2, 3)
			check("a change that tells what nobody has prepared", 1, id, changing(1, id, cert(1, 0, 1)), 1, 2, 3)
			check("a change to another view", 1, id, changing(2, id, cert(1, 0, 3)), 1, 2, 3)
		}
		// 2 leads View 1, so all go on to View 2.
		check("a change that tells nothing", 2, 2, changing(2, 2), 1, 2, 3)
		check("a change that tells what is prepared", 2, 2, changing(2, 2, cert(1, 0, 3)), 3, 1, 2)
		check("a change to the view that it leads", 2, 2, changing(1, 2, cert(1, 0, 3)), 1, 2, 3)
	}
}

// Some have left views that others are in yet, some of them more than one.
func TestDrainCOfThoseWhoLeft(t *testing.T) {
	n := newTale(t, 1, 3)
	n.decide(1, 1, 2, 1, 2, 3)
	n.do(1, 1)
	n.leave(2, 3)
	n.leave(5, 4)
	n.drains("two have left", 2, 1, 3)
	n = newTale(t, 1, 4)
	n.decide(1, 1, 2, 1, 2, 3)
	n.leave(1, 2, 3, 4)
	n.begin(2, 3, 4)
	n.decide(2, 1, 2, 2, 3, 4)
	n.decide(2, 2, 4, 2, 3, 4)
	n.do(2, 4)
	n.leave(7, 2)
	n.refuse("without a start", impl.CommitC(n.c, 2, 2, 4), impl.ErrState)
	n.drains("one never left View 0, one has left two", 2, 4, 1, 3)
}

// One that is bad leads and tells each of the others another thing: one of them alone can come to be decided, and all go on with that.
func TestWhoLeadsTellsTwoThings(t *testing.T) {
	r := rand.New(rand.NewPCG(105, 105))
	n := newTale(t, 1, 2, 1)
	n.lie(said(1, 0, 1, 1, 1), said(1, 0, 1, 1, 2))
	n.prepare(0, 2, 3)
	n.prepare(1, 4)
	n.lie(said(2, 0, 1, 1, 1), said(2, 0, 1, 1, 2))
	n.refuse("another one prepared", impl.PrepareC(n.c, 4, 0), impl.ErrTaken)
	n.refuse("two of four prepared it", impl.CommitC(n.c, 4, 1, 2), impl.ErrSign)
	n.commit(1, 1, 2, 3)
	n.lie(said(3, 0, 1, 1, 1), said(3, 0, 1, 1, 2))
	n.do(1, 2)
	checkBelieved(t, r, n.c)
	n.leave(1, 2, 3, 4)
	n.begin(2, 3, 4)
	n.refuse("another one is decided", impl.ProposeC(n.c, 2, 1, 2), impl.ErrForm)
	n.drains("with the one that is decided", 1, 2)
	checkBelieved(t, r, n.c)
}

// One that is bad, and has helped to decide, begins its view as if nothing were decided.
func TestWhoLeadsForgetsWhatIsDecided(t *testing.T) {
	n := newTale(t, 1, 2, 1)
	n.lie(said(1, 0, 1, 1, 1), said(2, 0, 1, 1, 1))
	n.prepare(0, 2, 3)
	n.commit(1, 1, 2, 3)
	n.lie(said(3, 0, 1, 1, 1))
	at := int64(len(n.c.Ledger))
	n.leave(4, 2, 3, 4)
	n.lie(changing(4, 1), changing(4, 1, cert(1, 0, 1)))
	for ahead, refs := range [][]int64{{at + 2, at + 3}, {at + 2, at + 3, at + 4}, {}, {0, at + 2, at + 3}, {at + 2}} {
		n.lie(beginning(4, 1, refs...))
		n.refuse("begun with what may not begin it", impl.AdoptC(n.c, 4, at+5+int64(ahead)), impl.ErrSign)
	}
	n.lie(beginning(4, 1, at, at+2, at+3), said(1, 4, 1, 1, 2), said(1, 4, 1, 1, 1), said(1, 4, 1, 2, 2))
	at += 10
	n.adopt(at, 2, 3, 4)
	for id := int64(2); id <= 4; id++ {
		n.refuse("another one is decided", impl.PrepareC(n.c, id, at+1), impl.ErrForm)
	}
	n.lie(said(2, 4, 1, 1, 2), said(3, 4, 1, 1, 2))
	n.prepare(at+3, 2, 3, 4)
	n.commit(2, 2, 2, 3, 4)
	n.do(2, 2, 3, 4)
	n.drains("both are decided", 1, 2)
}

// One that is bad begins its view twice, once with a change that tells of what one has committed, and once without.
func TestWhoLeadsBeginsTwice(t *testing.T) {
	n := newTale(t, 1, 2, 1)
	n.lie(said(1, 0, 1, 1, 1))
	n.prepare(0, 2, 3, 4)
	n.commit(1, 1, 2)
	at := int64(len(n.c.Ledger))
	n.leave(4, 2, 3, 4)
	n.lie(changing(4, 1), beginning(4, 1, at+1, at+2, at+3), beginning(4, 1, at, at+1, at+2), said(1, 4, 1, 1, 2), said(1, 4, 1, 1, 1))
	n.adopt(at+4, 3)
	n.adopt(at+5, 2, 4)
	n.prepare(at+6, 3)
	n.refuse("what its own start does not take over", impl.PrepareC(n.c, 2, at+6), impl.ErrForm)
	n.prepare(at+7, 2, 4)
	n.lie(said(2, 4, 1, 1, 1), said(2, 4, 1, 1, 2))
	n.refuse("two of four prepared it", impl.CommitC(n.c, 3, 1, 2), impl.ErrSign)
	n.commit(1, 1, 2, 4)
	n.lie(said(3, 4, 1, 1, 2), said(3, 4, 1, 1, 1))
	n.commit(1, 1, 3)
	n.do(1, 3)
	n.drains("with the one that enough have prepared", 1, 2)
}
