package tests

import (
	"math/rand/v2"
	"slices"

	"loop.example/g00369/impl"
)

// The model tells chapter 13 a second time: a replica has a book with a page for each slot of the log, which holds what there was to do and the state behind it; what it is asked is looked up there.
type modelPage struct {
	value  int64
	came   impl.StateResult
	beyond bool
}

// modelBook has one page ahead of all slots; it is asked of a cluster without a fault.
func modelBook(c impl.Cluster) []modelPage {
	book := []modelPage{{came: modelNewState(0)}}
	for _, value := range modelLogIn(c.F, c.Ledger) {
		page := book[len(book)-1]
		page.value = value
		switch {
		case value > int64(len(c.Requests)):
			page.beyond = true
		case value > 0 && !page.beyond:
			page.came = modelApplyRequest(page.came.State, c.Requests[value-1])
		}
		book = append(book, page)
	}
	return book
}

func modelState(page modelPage) impl.StateResult {
	if page.beyond {
		return noState(impl.ErrNone)
	}
	return page.came
}

func modelReply(page modelPage, client int64, number int64) impl.ReplyResult {
	if page.beyond {
		return noReply(impl.ErrNone)
	}
	return modelMarkOf(page.came.State, client, number)
}

func modelDone(c impl.Cluster, one impl.Replica, left []modelPage) impl.ClusterResult {
	switch {
	case len(left) == 0:
		return noCluster(impl.ErrState)
	case left[0].value > int64(len(c.Requests)):
		return noCluster(impl.ErrNone)
	}
	one.Done++
	return clusterResult(standing(c, one))
}

func modelValues(pages []modelPage) []int64 {
	var values []int64
	for _, page := range pages {
		values = append(values, page.value)
	}
	return values
}

func modelWaiting(c impl.Cluster, book []modelPage) impl.IntsResult {
	told := modelValues(book[1:])
	return impl.IntsResult{List: slices.DeleteFunc(firstOnes(int64(len(c.Requests))), func(value int64) bool { return slices.Contains(told, value) })}
}

// execCall holds what chapter 13 is asked with.
type execCall struct {
	c      impl.Cluster
	id     int64
	client int64
	number int64
}

// execAnswers holds what chapter 13 says of one call.
type execAnswers struct {
	done    impl.ClusterResult
	values  impl.IntsResult
	state   impl.StateResult
	reply   impl.ReplyResult
	lag     impl.IntResult
	waiting impl.IntsResult
}

func programExec(c execCall) execAnswers {
	return execAnswers{impl.DoneC(c.c, c.id), impl.ValuesC(c.c, c.id), impl.StateC(c.c, c.id), impl.ReplyC(c.c, c.id, c.client, c.number), impl.LagC(c.c, c.id), impl.WaitingC(c.c)}
}

// noneOfOne is what those functions that are told an id tell of a code.
func noneOfOne(code int64) execAnswers {
	return execAnswers{noCluster(code), noPlaces(code), noState(code), noReply(code), impl.IntResult{Code: code}, impl.IntsResult{}}
}

func modelExec(c execCall) execAnswers {
	if code := modelClusterFault(c.c); code != impl.OK {
		a := noneOfOne(code)
		a.waiting.Code = code
		return a
	}
	book := modelBook(c.c)
	a := noneOfOne(impl.ErrNone)
	a.waiting = modelWaiting(c.c, book)
	if at := slices.Index(modelIds(c.c.Replicas), c.id); at >= 0 {
		one := c.c.Replicas[at]
		read, left := book[:one.Done+1], book[one.Done+1:]
		last := read[one.Done]
		a.done, a.values = modelDone(c.c, one, left), impl.IntsResult{List: modelValues(read[1:])}
		a.state, a.reply = modelState(last), modelReply(last, c.client, c.number)
		a.lag = impl.IntResult{Value: int64(len(left))}
	}
	return a
}

func noReply(code int64) impl.ReplyResult {
	return impl.ReplyResult{Code: code}
}

func sameExec(a execAnswers, b execAnswers) bool {
	return sameTold(a.done, b.done) && sameInts(a.values, b.values) && sameState(a.state, b.state) && a.reply == b.reply && a.lag == b.lag && sameInts(a.waiting, b.waiting)
}

func (a execAnswers) codes() [6]int64 {
	return [...]int64{a.done.Code, a.values.Code, a.state.Code, a.reply.Code, a.lag.Code, a.waiting.Code}
}

// drawnOffered draws requests of two clients who open first and make things then, no two of one Client and Number; each follows the state that those ahead come to.
func drawnOffered(r *rand.Rand, many int) []impl.Request {
	var list []impl.Request
	s := modelNewState(0).State
	for len(list) < many {
		one := drawnAsked(r, s)
		one.Client, one.Number, one.Time = 1+r.Int64N(2), 1+r.Int64N(99), s.Now+drawn(r, []int64{0, 0, 0, 0, 0, 1, 1, 1, 2, 11})
		switch {
		case modelRollOf(s.Sessions)[one.Client] < one.Time && r.IntN(4) > 0:
			one.Ops = []impl.Op{opOpen}
		case r.IntN(2) == 0:
			one.Ops = []impl.Op{create(drawn(r, []string{"/a", "/b", "/c", "/a/b"}), r.Int64N(9))}
		}
		if !modelIsAsked(list, one) {
			list, s = append(list, one), modelApplyRequest(s, one).State
		}
	}
	return list
}

// drawnValue is most often that of the request that stands behind the last one, at times any, 0, or one of none.
func drawnValue(r *rand.Rand, last int64, many int64) int64 {
	switch n := r.IntN(40); {
	case n == 0:
		return min(many+1, 12)
	case n == 1:
		return 12
	case n < 8 || many == 0:
		return 0
	case n < 14:
		return 1 + r.Int64N(many)
	}
	return 1 + last%many
}

// drawnDecided draws votes that decide so many slots, at times with one between them that is not.
func drawnDecided(r *rand.Rand, f int64, slots int64, requests int64) []impl.Msg {
	var all []impl.Msg
	last := int64(0)
	for slot := range slots {
		voters := drawnVoters(r, f)
		if r.IntN(40) > 0 {
			voters = lastOnes(f, 2*f+1)
		}
		value := drawnValue(r, last, requests)
		all = append(all, commits(drawn(r, []int64{0, 0, 1, 4, 20}), slot+1, value, voters...)...)
		if value > 0 && value <= requests {
			last = value
		}
	}
	r.Shuffle(len(all), func(i int, j int) { all[i], all[j] = all[j], all[i] })
	return all
}

// drawnGoing draws a cluster without a fault whose log is long more often than not, and not all replicas have done all of it.
func drawnGoing(r *rand.Rand) impl.Cluster {
	f := 1 + r.Int64N(2)
	requests := drawnOffered(r, drawn(r, []int{0, 1, 3, 6, 12, 12, 12}))
	ledger := drawnDecided(r, f, drawn(r, []int64{0, 1, 5, 8, 13, 13, 13, 30}), int64(len(requests)))
	for range r.IntN(4) {
		if more := slices.Concat(ledger, chatter(r.IntN(9), 1+r.Int64N(3*f+1))); modelLedgerFault(f, more) == impl.OK {
			ledger = more
		}
	}
	c := impl.Cluster{F: f, Bad: drawnBad(r, f, 0), Ledger: ledger, Requests: requests}
	log := int64(len(modelLog(f, ledger).List))
	for _, id := range modelGood(f, c.Bad) {
		one := drawn(r, []impl.Replica{inFirst(id), inFirst(id), waiting(id, 1), waiting(id, 20)})
		one.Done = drawn(r, []int64{0, max(log-1, 0), log, log, r.Int64N(log + 1)})
		c.Replicas = append(c.Replicas, one)
	}
	return c
}

// drawnFineExec draws a call in which nothing has a fault; who is asked, and of what, is most often there.
func drawnFineExec(r *rand.Rand) execCall {
	c := execCall{c: drawnGoing(r)}
	if r.IntN(4) == 0 {
		c.c = drawnFineCluster(r).c
	}
	c.id, c.client, c.number = drawn(r, c.c.Replicas).Id, 1+r.Int64N(9), 1+r.Int64N(99)
	if len(c.c.Requests) > 0 && r.IntN(6) > 0 {
		same := drawn(r, c.c.Requests)
		c.client, c.number = same.Client, same.Number
	}
	return c
}

// drawnExecCall draws a call in which some is turned, most often into a fault.
func drawnExecCall(r *rand.Rand) execCall {
	c := drawnFineExec(r)
	for range r.IntN(3) {
		switch r.IntN(6) {
		case 0, 1:
			c.c = spoiltCluster(r, c.c)
		case 2:
			c.id = drawn(r, []int64{-1, 0, 1, 2, 4, 5, 7, 8})
		case 3:
			c.client = drawn(r, []int64{-1, 0, 1, 9, 10})
		case 4:
			c.number = drawn(r, []int64{-1, 0, 1, 99, 100})
		}
	}
	return c
}
