package tests

import (
	"fmt"
	"math/rand/v2"
	"slices"
	"strings"

	"loop.example/g00369/impl"
)

// The model tells chapter 15 a second time: nobody is asked what it may do. All that is to be said in the new view is written down as it must come, and each line of it is asked for what could stand in its way.
type modelDrain struct {
	c     impl.Cluster
	view  int64
	lead  int64
	taken int
	code  int64
}

func modelViewFor(c impl.Cluster) impl.IntResult {
	if code := modelClusterFault(c); code != impl.OK {
		return impl.IntResult{Code: code}
	}
	views := slices.DeleteFunc(counting(21), func(view int64) bool {
		return slices.ContainsFunc(c.Replicas, func(one impl.Replica) bool { return one.View >= view }) || slices.Contains(c.Bad, modelPrimary(c.F, view).Value)
	})
	if len(views) == 0 {
		return impl.IntResult{Code: impl.ErrRange}
	}
	return impl.IntResult{Value: views[0]}
}

// unless stops at a code.
func (d *modelDrain) unless(code int64, wrong bool) {
	if d.code == impl.OK && wrong {
		d.code = code
	}
}

// say tells the place of a message, which stands at the end unless it is there already.
func (d *modelDrain) say(m impl.Msg) int64 {
	at := slices.IndexFunc(d.c.Ledger, func(o impl.Msg) bool { return equalMsgs(o, m) })
	if at >= 0 {
		return int64(at)
	}
	d.unless(impl.ErrMany, len(d.c.Ledger) == 240)
	if d.code == impl.OK {
		d.c.Ledger = ledgerOf(d.c.Ledger, msgs(m))
	}
	return int64(len(d.c.Ledger)) - 1
}

// hasSaid looks for any message of a kind and slot of the new view.
func (d *modelDrain) hasSaid(kind int64, id int64, slot int64) bool {
	return slices.ContainsFunc(d.c.Ledger, func(m impl.Msg) bool {
		return m.Kind == kind && m.View == d.view && m.From == id && m.Slot == slot
	})
}

// begin tells the values that the new view holds, slot by slot.
func (d *modelDrain) begin() []int64 {
	good := modelIds(d.c.Replicas)
	for _, id := range good {
		d.say(changing(d.view, id, modelCertsOf(d.c.F, d.c.Ledger, id, d.view).Certs...))
	}
	refs := modelChangesFor(d.c.F, d.c.Ledger, d.view).List
	d.unless(impl.ErrSign, len(refs) < modelNeeds[d.c.F])
	start := d.say(beginning(d.view, d.lead, refs...))
	d.c.Replicas = slices.Clone(d.c.Replicas)
	for at := range d.c.Replicas {
		d.c.Replicas[at].View, d.c.Replicas[at].Start = d.view, start
	}
	values := modelTaken(d.c.Ledger, refs)
	d.taken = len(values)
	all := firstOnes(int64(len(d.c.Requests)))
	return append(values, slices.DeleteFunc(all, func(value int64) bool { return slices.Contains(values, value) })...)
}

func (d *modelDrain) fill(slot int64, value int64) {
	d.unless(impl.ErrRange, modelNoSlot(slot))
	d.unless(impl.ErrTaken, d.hasSaid(1, d.lead, slot))
	d.unless(impl.ErrForm, int(slot) > d.taken && slices.ContainsFunc(counting(31), func(other int64) bool {
		return slices.ContainsFunc(d.c.Ledger, func(m impl.Msg) bool { return equalMsgs(m, said(1, d.view, d.lead, other, value)) })
	}))
	d.unless(impl.ErrNone, int(value) > len(d.c.Requests))
	d.say(said(1, d.view, d.lead, slot, value))
	for _, kind := range []int64{2, 3} {
		for _, id := range modelIds(d.c.Replicas) {
			d.unless(impl.ErrTaken, d.hasSaid(kind, id, slot))
			d.say(said(kind, d.view, id, slot, value))
		}
	}
}

func modelDrainC(c impl.Cluster) impl.ClusterResult {
	view := modelViewFor(c)
	if view.Code != impl.OK {
		return noCluster(view.Code)
	}
	d := modelDrain{c: c, view: view.Value, lead: modelPrimary(c.F, view.Value).Value}
	for at, value := range d.begin() {
		d.fill(int64(at)+1, value)
	}
	if d.code != impl.OK {
		return noCluster(d.code)
	}
	log := modelLogIn(c.F, d.c.Ledger)
	for at := range d.c.Replicas {
		left := log[d.c.Replicas[at].Done:]
		end := slices.IndexFunc(left, func(value int64) bool { return int(value) > len(c.Requests) })
		if end < 0 {
			end = len(left)
		}
		d.c.Replicas[at].Done += int64(end)
	}
	return clusterResult(d.c)
}

// modelSafe lets the first value that enough have committed hold a slot; no other one may come there.
func modelSafe(c impl.Cluster) bool {
	tally, held := modelTallyOf(c.Ledger), map[int64]int64{}
	for said := range tally {
		if said.kind != impl.MsgCommit || !tally.enough(c.F, said.kind, said.view, said.slot, said.value) {
			continue
		}
		if value, has := held[said.slot]; has && value != said.value {
			return false
		}
		held[said.slot] = said.value
	}
	return true
}

// modelHonest writes down what each that is not bad said, but for the values; when that is sorted, what was said twice stands side by side.
func modelHonest(c impl.Cluster) bool {
	var lines []string
	for at, m := range c.Ledger {
		switch {
		case slices.Contains(c.Bad, m.From) || m.Kind == impl.MsgNew:
		case m.Kind != impl.MsgChange:
			lines = append(lines, fmt.Sprint(m.Kind, m.View, m.From, m.Slot))
		case !modelRightChange(c.F, c.Ledger, int64(at)):
			return false
		}
	}
	many := len(lines)
	slices.Sort(lines)
	return len(slices.Compact(lines)) == many
}

// modelAlike holds the story of each against the longest one.
func modelAlike(c impl.Cluster, book []modelPage) bool {
	var stories []string
	longest := ""
	for _, one := range c.Replicas {
		story := ""
		for _, value := range modelValues(book[1 : one.Done+1]) {
			story += fmt.Sprintf("%d, ", value)
		}
		stories = append(stories, story)
		if len(story) > len(longest) {
			longest = story
		}
	}
	return !slices.ContainsFunc(stories, func(story string) bool { return !strings.HasPrefix(longest, story) })
}

// modelTrue looks up what is believed where the one who has read most has come to in its book.
func modelTrue(c voteCall) bool {
	if modelClusterFault(c.c) != impl.OK {
		return false
	}
	believed := modelAskC(c.c, modelGatherC(c.c, c.client, c.number), c.lies)
	if believed.Code != impl.OK {
		return true
	}
	most := int64(0)
	for _, one := range c.c.Replicas {
		most = max(most, one.Done)
	}
	told := modelReply(modelBook(c.c)[most], c.client, c.number)
	return told.Code == impl.OK && told.Reply == believed.Reply
}

func programTrue(c voteCall) bool {
	return impl.TrueRight(c.c, c.client, c.number, c.lies)
}

// auditAnswers holds what chapter 15 says of one cluster, whatever a client asks.
type auditAnswers struct {
	drained impl.ClusterResult
	view    impl.IntResult
	safe    bool
	honest  bool
	alike   bool
}

func programAudit(c impl.Cluster) auditAnswers {
	return auditAnswers{impl.DrainC(c), impl.ViewFor(c), impl.SafeRight(c), impl.HonestRight(c), impl.AlikeRight(c)}
}

func modelAudit(c impl.Cluster) auditAnswers {
	a := auditAnswers{drained: modelDrainC(c), view: modelViewFor(c)}
	if modelClusterFault(c) == impl.OK {
		a.safe, a.honest, a.alike = modelSafe(c), modelHonest(c), modelAlike(c, modelBook(c))
	}
	return a
}

func sameAudits(a auditAnswers, b auditAnswers) bool {
	return sameTold(a.drained, b.drained) && a.view == b.view && a.safe == b.safe && a.honest == b.honest && a.alike == b.alike
}

// drawnGrown draws a cluster that came of a new one by what it may do, with lies of those who are bad.
func drawnGrown(r *rand.Rand) impl.Cluster {
	f := 1 + r.Int64N(2)
	c := impl.NewCluster(f, drawnBad(r, f, 0)).Cluster
	for _, one := range drawnOffered(r, r.IntN(5)) {
		c = impl.OfferC(c, one).Cluster
	}
	for range drawn(r, []int{0, 10, 40, 90}) {
		if told := drawnStep(r, c); told.Code == impl.OK {
			c = told.Cluster
		}
	}
	return c
}

// drawnStep draws something that is done, most often such as may be.
func drawnStep(r *rand.Rand, c impl.Cluster) impl.ClusterResult {
	one := drawn(r, c.Replicas)
	place := int64(r.IntN(len(c.Ledger) + 1))
	value, slot := r.Int64N(int64(len(c.Requests))+1), 1+r.Int64N(3)
	switch n := r.IntN(20); {
	case n < 4:
		return impl.ProposeC(c, impl.PrimaryOf(c.F, one.View).Value, slot, value)
	case n < 9:
		return impl.PrepareC(c, one.Id, drawnPlace(r, c.Ledger, 1))
	case n < 14:
		if at := drawnPlace(r, c.Ledger, 2); at >= 0 {
			slot, value = c.Ledger[at].Slot, c.Ledger[at].Value
		}
		return impl.CommitC(c, one.Id, slot, value)
	case n == 14:
		return impl.ChangeC(c, one.Id, drawn(r, []int64{1, 1, 1, 2, 2, 3}))
	case n == 15:
		return impl.NewC(c, impl.PrimaryOf(c.F, one.View).Value)
	case n == 16:
		return impl.AdoptC(c, one.Id, drawnPlace(r, c.Ledger, 5))
	case n == 17 || len(c.Bad) == 0:
		return impl.DoneC(c, one.Id)
	}
	m := drawnMsg(r, c.F, len(c.Ledger))
	if int(place) < len(c.Ledger) && r.IntN(2) == 0 {
		m = c.Ledger[place]
	}
	m.From = drawn(r, c.Bad)
	return impl.ForgeC(c, m)
}

// padded is a cluster in whose ledger there stands so much that no more than so many messages are to come.
func padded(c impl.Cluster, left int) impl.Cluster {
	for _, m := range chatter(240, 1) {
		if len(c.Ledger) >= 240-left {
			break
		}
		if !slices.ContainsFunc(c.Ledger, func(o impl.Msg) bool { return equalMsgs(o, m) }) {
			c = saying(c, m)
		}
	}
	return c
}

// drawnFineAudit draws a cluster without a fault, which may have come of steps or not.
func drawnFineAudit(r *rand.Rand) impl.Cluster {
	c := drawnGrown(r)
	switch r.IntN(8) {
	case 0:
		c = drawnGoing(r)
	case 1, 2:
		c = drawnFineCluster(r).c
	case 3:
		c = padded(c, r.IntN(100))
	case 4, 5:
		c.Requests = c.Requests[:r.IntN(len(c.Requests)+1)]
	}
	if r.IntN(6) == 0 {
		// What one that is not bad would not have said ahead of its view.
		one, view := drawn(r, c.Replicas), impl.ViewFor(c).Value
		c.Ledger = slices.Concat(c.Ledger, drawn(r, [][]impl.Msg{msgs(changing(view, one.Id)), prepares(view, 1+r.Int64N(4), r.Int64N(3), one.Id), commits(view, 1+r.Int64N(4), r.Int64N(3), one.Id), msgs(said(1, view, impl.PrimaryOf(c.F, view).Value, 1+r.Int64N(5), r.Int64N(4)))}))
	}
	if modelLedgerFault(c.F, c.Ledger) != impl.OK {
		return drawnFineAudit(r)
	}
	return c
}

// drawnAudit draws a cluster in which some is turned, most often into a fault.
func drawnAudit(r *rand.Rand) impl.Cluster {
	c := drawnFineAudit(r)
	for range r.IntN(9) / 6 {
		c = spoiltCluster(r, c)
	}
	return c
}
