package tests

import (
	"math/rand/v2"
	"slices"

	"loop.example/g00369/impl"
)

// The model tells chapter 12 a second time: all that a cluster is asked stands in one row, of which the first that tells a code is the answer; and what is turned is told as a new cluster, of which all else is what it was.
type modelQuestion func() int64

func modelFirst(asks ...modelQuestion) int64 {
	for _, ask := range asks {
		if code := ask(); code != impl.OK {
			return code
		}
	}
	return impl.OK
}

func modelWhen(code int64, broken func() bool) modelQuestion {
	return func() int64 { return modelBroken(modelRule{code, broken}) }
}

func modelBadAsks(f int64, bad []int64) []modelQuestion {
	var asks []modelQuestion
	for at, id := range bad {
		asks = append(asks,
			modelWhen(impl.ErrRange, func() bool { return modelNoReplica(f, id) }),
			modelWhen(impl.ErrForm, func() bool { return !modelRises(bad[:at+1]) }))
	}
	return asks
}

func modelRequestAsks(list []impl.Request) []modelQuestion {
	var asks []modelQuestion
	for at, r := range list {
		asks = append(asks,
			func() int64 { return modelRequestFault(r) },
			modelWhen(impl.ErrTaken, func() bool { return modelIsAsked(list[:at], r) }))
	}
	return asks
}

// modelIsAsked looks for Client and Number as one number.
func modelIsAsked(list []impl.Request, r impl.Request) bool {
	var asked []int64
	for _, o := range list {
		asked = append(asked, 1000*o.Client+o.Number)
	}
	return slices.Contains(asked, 1000*r.Client+r.Number)
}

// modelGood are all others than those that are bad.
func modelGood(f int64, bad []int64) []int64 {
	return slices.DeleteFunc(firstOnes(modelReplicas[f]), func(id int64) bool { return slices.Contains(bad, id) })
}

func modelIds(list []impl.Replica) []int64 {
	var ids []int64
	for _, one := range list {
		ids = append(ids, one.Id)
	}
	return ids
}

func modelClusterFault(c impl.Cluster) int64 {
	asks := []modelQuestion{
		func() int64 { return modelLedgerFault(c.F, c.Ledger) },
		modelWhen(impl.ErrMany, func() bool { return len(c.Bad) > int(c.F) || len(c.Requests) >= 13 }),
	}
	asks = append(asks, modelBadAsks(c.F, c.Bad)...)
	asks = append(asks, modelWhen(impl.ErrForm, func() bool { return !slices.Equal(modelIds(c.Replicas), modelGood(c.F, c.Bad)) }))
	for _, one := range c.Replicas {
		asks = append(asks, func() int64 { return modelOneFault(c.F, c.Ledger, one) })
	}
	return modelFirst(append(asks, modelRequestAsks(c.Requests)...)...)
}

func modelNewCluster(f int64, bad []int64) impl.ClusterResult {
	asks := []modelQuestion{
		modelWhen(impl.ErrRange, func() bool { return modelReplicas[f] == 0 }),
		modelWhen(impl.ErrMany, func() bool { return len(bad) > int(f) }),
	}
	if code := modelFirst(append(asks, modelBadAsks(f, bad)...)...); code != impl.OK {
		return noCluster(code)
	}
	c := impl.Cluster{F: f, Bad: bad}
	for _, id := range modelGood(f, bad) {
		c.Replicas = append(c.Replicas, impl.Replica{Id: id, Start: -1})
	}
	return clusterResult(c)
}

// modelSend asks what is asked first, and puts a message then.
func modelSend(c impl.Cluster, m impl.Msg, asks ...modelQuestion) impl.ClusterResult {
	if code := modelFirst(asks...); code != impl.OK {
		return noCluster(code)
	}
	put := modelPut(c.F, c.Ledger, m)
	if put.Code != impl.OK {
		return noCluster(put.Code)
	}
	c.Ledger = put.Ledger
	return clusterResult(c)
}

func modelFew(c impl.Cluster, value int64) modelQuestion {
	return modelWhen(impl.ErrNone, func() bool { return len(c.Requests) < int(value) })
}

func modelOffer(c impl.Cluster, r impl.Request) impl.ClusterResult {
	all := slices.Concat(c.Requests, []impl.Request{r})
	asks := append(modelRequestAsks(all), modelWhen(impl.ErrMany, func() bool { return len(c.Requests) == 12 }))
	if code := modelFirst(asks...); code != impl.OK {
		return noCluster(code)
	}
	c.Requests = all
	return clusterResult(c)
}

// modelProposeC, and those behind it, ask of a cluster without a fault, and of one of its replicas.
func modelProposeC(c impl.Cluster, one impl.Replica, slot int64, value int64) impl.ClusterResult {
	may := func() int64 { return modelMayPropose(c.F, c.Ledger, one, slot, value) }
	return modelSend(c, said(1, one.View, one.Id, slot, value), may, modelFew(c, value))
}

func modelPrepareC(c impl.Cluster, one impl.Replica, place int64) impl.ClusterResult {
	if code := modelMayPrepare(c.F, c.Ledger, one, place); code != impl.OK {
		return noCluster(code)
	}
	m := c.Ledger[place]
	return modelSend(c, said(2, one.View, one.Id, m.Slot, m.Value), modelFew(c, m.Value))
}

func modelCommitC(c impl.Cluster, one impl.Replica, slot int64, value int64) impl.ClusterResult {
	may := func() int64 { return modelMayCommit(c.F, c.Ledger, one, slot, value) }
	return modelSend(c, said(3, one.View, one.Id, slot, value), may)
}

func modelChangeC(c impl.Cluster, one impl.Replica, view int64) impl.ClusterResult {
	told := modelChangeMsg(c.F, c.Ledger, one, view)
	sent := modelSend(c, told.Msg, func() int64 { return told.Code })
	if sent.Code != impl.OK {
		return sent
	}
	return clusterResult(standing(sent.Cluster, impl.Replica{Id: one.Id, View: view, Start: -1, Done: one.Done}))
}

func modelNewC(c impl.Cluster, one impl.Replica) impl.ClusterResult {
	told := modelNewMsg(c.F, c.Ledger, one)
	sent := modelSend(c, told.Msg, func() int64 { return told.Code })
	if sent.Code != impl.OK {
		return sent
	}
	for place, m := range sent.Cluster.Ledger {
		if modelSameMsgs(m, told.Msg) {
			one.Start = int64(place)
		}
	}
	return clusterResult(standing(sent.Cluster, one))
}

func modelAdoptC(c impl.Cluster, one impl.Replica, place int64) impl.ClusterResult {
	code := modelBroken(
		modelRule{impl.ErrState, func() bool { return one.Start != -1 }},
		modelRule{impl.ErrSign, func() bool {
			return !modelRightNew(c.F, c.Ledger, place) || c.Ledger[place].View != one.View
		}},
	)
	if code != impl.OK {
		return noCluster(code)
	}
	one.Start = place
	return clusterResult(standing(c, one))
}

func modelForgeC(c impl.Cluster, m impl.Msg) impl.ClusterResult {
	return modelSend(c, m,
		func() int64 { return modelMsgFault(c.F, m) },
		modelWhen(impl.ErrSign, func() bool { return slices.Contains(modelGood(c.F, c.Bad), m.From) }))
}

// clusterCall holds what chapter 12 is asked with; next is what is proposed, done what is committed (their Views are not asked), start is adopted and m forged.
type clusterCall struct {
	c     impl.Cluster
	f     int64
	bad   []int64
	r     impl.Request
	id    int64
	next  impl.Cert
	place int64
	done  impl.Cert
	view  int64
	start int64
	m     impl.Msg
}

// clusterFaces are the functions that tell a cluster, in the order in which clusterAnswers has them; those from asOne up to asForge are told an id.
var clusterFaces = [...]string{"NewCluster", "OfferC", "ProposeC", "PrepareC", "CommitC", "ChangeC", "NewC", "AdoptC", "ForgeC"}

const asNew, asOffer, asOne, asForge = 0, 1, 2, 8

// clusterAnswers holds what chapter 12 says of one call.
type clusterAnswers struct {
	fault int64
	told  [len(clusterFaces)]impl.ClusterResult
}

func programCluster(c clusterCall) clusterAnswers {
	return clusterAnswers{impl.ClusterFault(c.c), [...]impl.ClusterResult{impl.NewCluster(c.f, c.bad), impl.OfferC(c.c, c.r), impl.ProposeC(c.c, c.id, c.next.Slot, c.next.Value), impl.PrepareC(c.c, c.id, c.place), impl.CommitC(c.c, c.id, c.done.Slot, c.done.Value), impl.ChangeC(c.c, c.id, c.view), impl.NewC(c.c, c.id), impl.AdoptC(c.c, c.id, c.start), impl.ForgeC(c.c, c.m)}}
}

func modelCluster(c clusterCall) clusterAnswers {
	a := clusterAnswers{fault: modelClusterFault(c.c)}
	a.told[asNew] = modelNewCluster(c.f, c.bad)
	if a.fault != impl.OK {
		for at := asOffer; at <= asForge; at++ {
			a.told[at] = noCluster(a.fault)
		}
		return a
	}
	a.told[asOffer], a.told[asForge] = modelOffer(c.c, c.r), modelForgeC(c.c, c.m)
	at := slices.Index(modelIds(c.c.Replicas), c.id)
	if at < 0 {
		for face := asOne; face < asForge; face++ {
			a.told[face] = noCluster(impl.ErrNone)
		}
		return a
	}
	one := c.c.Replicas[at]
	copy(a.told[asOne:], []impl.ClusterResult{modelProposeC(c.c, one, c.next.Slot, c.next.Value), modelPrepareC(c.c, one, c.place), modelCommitC(c.c, one, c.done.Slot, c.done.Value), modelChangeC(c.c, one, c.view), modelNewC(c.c, one), modelAdoptC(c.c, one, c.start)})
	return a
}

func clusterResult(c impl.Cluster) impl.ClusterResult {
	return impl.ClusterResult{Cluster: c}
}

func noCluster(code int64) impl.ClusterResult {
	return impl.ClusterResult{Code: code}
}

// standing is a cluster in which one replica stands in the place of that of its Id.
func standing(c impl.Cluster, one impl.Replica) impl.Cluster {
	c.Replicas = slices.Clone(c.Replicas)
	for at := range c.Replicas {
		if c.Replicas[at].Id == one.Id {
			c.Replicas[at] = one
		}
	}
	return c
}

func sameClusters(a impl.Cluster, b impl.Cluster) bool {
	return a.F == b.F && slices.Equal(a.Bad, b.Bad) && slices.Equal(a.Replicas, b.Replicas) && sameLedgers(a.Ledger, b.Ledger) && slices.EqualFunc(a.Requests, b.Requests, sameAsked)
}

// sameAsked is quicker than the model, for what is asked of many.
func sameAsked(a impl.Request, b impl.Request) bool {
	return a.Client == b.Client && a.Number == b.Number && a.Time == b.Time && slices.Equal(a.Ops, b.Ops)
}

func sameTold(a impl.ClusterResult, b impl.ClusterResult) bool {
	return a.Code == b.Code && sameClusters(a.Cluster, b.Cluster)
}

func sameClusterAnswers(a clusterAnswers, b clusterAnswers) bool {
	return a.fault == b.fault && slices.EqualFunc(a.told[:], b.told[:], sameTold)
}

// drawnRequests draws requests without a fault, no two of one Client and Number.
func drawnRequests(r *rand.Rand, many int) []impl.Request {
	var list []impl.Request
	for len(list) < many {
		one := drawnRequest(r)
		one.Number = 1 + r.Int64N(99)
		if !modelIsAsked(list, one) {
			list = append(list, one)
		}
	}
	return list
}

// drawnBad draws who is bad, most often not the one that is asked.
func drawnBad(r *rand.Rand, f int64, asked int64) []int64 {
	var bad []int64
	for _, at := range drawnRising(r, int(r.Int64N(f+1)), int(modelReplicas[f])) {
		if id := at + 1; id != asked || r.IntN(12) == 0 {
			bad = append(bad, id)
		}
	}
	return bad
}

// drawnFineCluster draws a call in which nothing has a fault, around one of chapter 11; what is asked for is most often near to what may be done.
func drawnFineCluster(r *rand.Rand) clusterCall {
	one := drawnFineReplica(r)
	c := clusterCall{f: 1 + r.Int64N(2), id: one.r.Id, next: one.next, place: one.place, done: one.done, view: one.view}
	c.bad = drawnBad(r, c.f, 0)
	c.c = impl.Cluster{F: one.f, Bad: drawnBad(r, one.f, one.r.Id), Ledger: one.ledger, Requests: drawnRequests(r, drawn(r, []int{0, 1, 3, 6, 11, 12, 12, 12}))}
	d := viewsDrawn{r: r, f: one.f, ledger: one.ledger}
	log := int64(len(modelLog(one.f, one.ledger).List))
	for _, id := range modelGood(one.f, c.c.Bad) {
		other := d.replica()
		other.Id, other.Done = id, r.Int64N(log+1)
		c.c.Replicas = append(c.c.Replicas, other)
	}
	if r.IntN(3) == 0 {
		one.r.Start = -1
	}
	c.c = standing(c.c, one.r)
	c.r = drawnRequests(r, 1)[0]
	if len(c.c.Requests) > 0 && r.IntN(8) == 0 {
		same := drawn(r, c.c.Requests)
		c.r.Client, c.r.Number = same.Client, same.Number
	}
	c.start = drawnPlace(r, one.ledger, 5)
	if right := slices.DeleteFunc(d.rightNews(), func(at int64) bool { return one.ledger[at].View != one.r.View }); len(right) > 0 && r.IntN(6) > 0 {
		c.start = drawn(r, right)
	}
	c.m = drawnMsg(r, one.f, len(one.ledger))
	if len(c.c.Bad) > 0 && r.IntN(6) > 0 {
		c.m.From = drawn(r, c.c.Bad)
	}
	if own := d.placesWith(func(m impl.Msg) bool { return slices.Contains(c.c.Bad, m.From) }); len(own) > 0 && r.IntN(6) == 0 {
		c.m = one.ledger[drawn(r, own)]
	}
	return c
}

// spoiltList turns one thing of a list of Ids, most often into a fault; what is handed in stays as it is.
func spoiltList(r *rand.Rand, list []int64) []int64 {
	list = slices.Clone(list)
	switch r.IntN(4) {
	case 0:
		return append(list, 1+r.Int64N(7))
	case 1:
		return append(list, drawn(r, []int64{-1, 0, 5, 8}))
	case 2:
		slices.Reverse(list)
		return list
	}
	return append(list, list...)
}

// spoiltReplicas turns one thing of replicas, most often into a fault; what is handed in stays as it is.
func spoiltReplicas(r *rand.Rand, list []impl.Replica, places int64) []impl.Replica {
	list = slices.Clone(list)
	i, j := r.IntN(len(list)), r.IntN(len(list))
	switch r.IntN(8) {
	case 0:
		return slices.Delete(list, i, i+1)
	case 1:
		return slices.Insert(list, i, list[j])
	case 2:
		list[i], list[j] = list[j], list[i]
	case 3:
		list[i].Id = r.Int64N(9)
	default:
		list[i] = spoiltReplica(r, list[i], places)
	}
	return list
}

func spoiltRequests(r *rand.Rand, list []impl.Request) []impl.Request {
	list = slices.Clone(list)
	if len(list) == 0 {
		return append(list, spoiltRequest(r, drawnRequest(r)))
	}
	i, j := r.IntN(len(list)), r.IntN(len(list))
	switch r.IntN(5) {
	case 0:
		list = append(list, drawnRequests(r, 13-len(list))...)
	case 1:
		list[i].Client, list[i].Number = list[j].Client, list[j].Number
	default:
		list[i] = spoiltRequest(r, list[i])
	}
	return list
}

// spoiltCluster turns one thing of a cluster, most often into a fault; what is handed in stays as it is.
func spoiltCluster(r *rand.Rand, c impl.Cluster) impl.Cluster {
	switch r.IntN(6) {
	case 0:
		c.F = drawn(r, []int64{0, 1, 2, 3})
	case 1:
		c.Ledger = spoiltLedger(r, c.Ledger)
	case 2:
		c.Bad = spoiltList(r, c.Bad)
	case 3, 4:
		c.Replicas = spoiltReplicas(r, c.Replicas, int64(len(c.Ledger)))
	case 5:
		c.Requests = spoiltRequests(r, c.Requests)
	}
	return c
}

// drawnClusterCall draws a call in which some is turned, most often into a fault.
func drawnClusterCall(r *rand.Rand) clusterCall {
	c := drawnFineCluster(r)
	many := int64(len(c.c.Ledger))
	for range r.IntN(4) {
		at := drawn(r, []int64{-2, -1, 0, many - 1, many, many + 1, r.Int64N(many + 1)})
		switch r.IntN(20) {
		case 0, 1, 2, 3, 4, 5:
			c.c = spoiltCluster(r, c.c)
		case 6:
			c.f = drawn(r, []int64{0, 1, 2, 3})
		case 7, 8:
			c.bad = spoiltList(r, c.bad)
		case 9, 10:
			c.r = spoiltRequest(r, c.r)
		case 11:
			c.id = drawn(r, []int64{-1, 0, 1, 2, 4, 5, 7, 8})
		case 12:
			c.next = spoiltCert(r, c.next)
		case 13:
			c.place = at
		case 14:
			c.done = spoiltCert(r, c.done)
		case 15:
			c.view = drawn(r, []int64{-1, 0, 1, 20, 21})
		case 16, 17:
			c.start = at
		case 18, 19:
			c.m = spoiltMsg(r, c.m)
		}
	}
	return c
}
