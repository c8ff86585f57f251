package tests

import (
	"math/rand/v2"
	"slices"
	"strings"

	"loop.example/g00369/impl"
)

// The model tells chapter 4 a second time: there is one place for each Id that can be, with nobodyThere where it is not there.
type modelRoll [10]int64

const nobodyThere = -1

func modelRollOf(list []impl.Session) modelRoll {
	roll := modelRoll(alike(nobodyThere, 10))
	for _, s := range list {
		roll[s.Id] = s.Until
	}
	return roll
}

// told lays out the sessions of which a question is true.
func (roll modelRoll) told(is func(until int64) bool) []impl.Session {
	var list []impl.Session
	for id, until := range roll {
		if until != nobodyThere && is(until) {
			list = append(list, impl.Session{Id: int64(id), Until: until})
		}
	}
	return list
}

func always(int64) bool {
	return true
}

func modelNoId(id int64) bool {
	return id == 0 || modelOutside(id, 9)
}

func modelSessionsFault(list []impl.Session) int64 {
	if len(list) >= 7 {
		return impl.ErrMany
	}
	for i, s := range list {
		switch {
		case modelNoId(s.Id), modelOutside(s.Until, 9999):
			return impl.ErrRange
		case i > 0 && list[i-1].Id >= s.Id:
			return impl.ErrForm
		}
	}
	return impl.OK
}

// modelAskSessions is asked with an id that is one where a function takes none.
func modelAskSessions(list []impl.Session, id int64, now int64) int64 {
	code := modelSessionsFault(list)
	if code == impl.OK && (modelNoId(id) || modelOutside(now, 9000)) {
		return impl.ErrRange
	}
	return code
}

func modelOpen(list []impl.Session, id int64, now int64) impl.SessionsResult {
	if code := modelAskSessions(list, id, now); code != impl.OK {
		return impl.SessionsResult{Code: code}
	}
	roll := modelRollOf(list)
	switch {
	case roll[id] != nobodyThere:
		return impl.SessionsResult{Code: impl.ErrTaken}
	case len(list) > 5:
		return impl.SessionsResult{Code: impl.ErrMany}
	}
	roll[id] = now + 10
	return impl.SessionsResult{Sessions: roll.told(always)}
}

func modelTouch(list []impl.Session, id int64, now int64) impl.SessionsResult {
	if code := modelAskSessions(list, id, now); code != impl.OK {
		return impl.SessionsResult{Code: code}
	}
	roll := modelRollOf(list)
	// Where nobody is there the place is below every now.
	if roll[id] < now {
		return impl.SessionsResult{Code: impl.ErrSession}
	}
	roll[id] = now + 10
	return impl.SessionsResult{Sessions: roll.told(always)}
}

func modelLive(list []impl.Session, id int64, now int64) bool {
	return modelTouch(list, id, now).Code == impl.OK
}

func modelSplitSessions(list []impl.Session, now int64) impl.SplitResult {
	if code := modelAskSessions(list, 1, now); code != impl.OK {
		return impl.SplitResult{Code: code}
	}
	roll := modelRollOf(list)
	split := impl.SplitResult{Live: roll.told(func(until int64) bool { return until >= now })}
	for _, s := range roll.told(func(until int64) bool { return until < now }) {
		split.Over = append(split.Over, s.Id)
	}
	return split
}

// modelDrop deletes the nodes one by one, where the program drops them at once.
func modelDrop(nodes []impl.Znode, ids []int64) impl.ZResult {
	if code := modelTreeFault(nodes); code != impl.OK {
		return impl.ZResult{Code: code}
	}
	if len(ids) >= 10 {
		return impl.ZResult{Code: impl.ErrMany}
	}
	tree := modelOf(nodes)
	for _, id := range ids {
		for _, z := range nodes {
			if id == z.Owner && id > 0 {
				delete(tree, z.Path)
			}
		}
	}
	return impl.ZResult{Nodes: tree.inOrder()}
}

// sessionCall holds what chapter 4 is asked with.
type sessionCall struct {
	list  []impl.Session
	id    int64
	now   int64
	nodes []impl.Znode
	ids   []int64
}

// sessionAnswers holds what chapter 4 says of one call.
type sessionAnswers struct {
	fault   int64
	opened  impl.SessionsResult
	touched impl.SessionsResult
	live    bool
	split   impl.SplitResult
	dropped impl.ZResult
}

func programSessions(c sessionCall) sessionAnswers {
	return sessionAnswers{impl.SessionsFault(c.list), impl.OpenSession(c.list, c.id, c.now), impl.TouchSession(c.list, c.id, c.now), impl.LiveSession(c.list, c.id, c.now), impl.SplitSessions(c.list, c.now), impl.DropOwned(c.nodes, c.ids)}
}

func modelSessions(c sessionCall) sessionAnswers {
	return sessionAnswers{modelSessionsFault(c.list), modelOpen(c.list, c.id, c.now), modelTouch(c.list, c.id, c.now), modelLive(c.list, c.id, c.now), modelSplitSessions(c.list, c.now), modelDrop(c.nodes, c.ids)}
}

func sameSessions(a impl.SessionsResult, b impl.SessionsResult) bool {
	return a.Code == b.Code && slices.Equal(a.Sessions, b.Sessions)
}

func sameSplit(a impl.SplitResult, b impl.SplitResult) bool {
	return a.Code == b.Code && slices.Equal(a.Live, b.Live) && slices.Equal(a.Over, b.Over)
}

func sameSessionAnswers(a sessionAnswers, b sessionAnswers) bool {
	return a.fault == b.fault && sameSessions(a.opened, b.opened) && sameSessions(a.touched, b.touched) && a.live == b.live && sameSplit(a.split, b.split) && sameZ(a.dropped, b.dropped)
}

var drawnIds = []int64{1, 2, 3, 4, 5, 6, 7, 8, 9}
var drawnNows = []int64{0, 1, 9, 10, 11, 500, 8999, 9000}

// drawnSessions draws who is there, with Untils at and beside a moment.
func drawnSessions(r *rand.Rand, now int64) []impl.Session {
	var list []impl.Session
	ids := r.Perm(9)[:r.IntN(7)]
	slices.Sort(ids)
	for _, id := range ids {
		until := drawn(r, []int64{now - 1, now, now + 1, now + 10, 0, 9999, r.Int64N(10000)})
		list = append(list, impl.Session{Id: int64(id) + 1, Until: max(until, 0)})
	}
	return list
}

// spoiltSessions turns one thing of sessions, most often into a fault.
func spoiltSessions(r *rand.Rand, list []impl.Session) []impl.Session {
	list = slices.Clone(list)
	if len(list) == 0 {
		return append(list, impl.Session{Id: drawn(r, []int64{0, 10})})
	}
	i, j := r.IntN(len(list)), r.IntN(len(list))
	switch r.IntN(5) {
	case 0:
		list[i].Id = drawn(r, []int64{-1, 0, 1, 9, 10})
	case 1:
		list[i].Until = drawn(r, []int64{-1, 0, 9999, 10000})
	case 2:
		list[i], list[j] = list[j], list[i]
	case 3:
		list = slices.Insert(list, i, list[j])
	case 4:
		for len(list) < 7 {
			list = append(list, impl.Session{Id: int64(len(list)) + 1, Until: 5})
		}
	}
	return list
}

// drawnOwned picks some paths of which the parents are picked too, and gives those without kids an Owner or none.
func drawnOwned(r *rand.Rand) []impl.Znode {
	tree := modelTree{"/": {Path: "/", Next: drawn(r, []int64{0, 7, 100})}}
	for _, path := range slices.Sorted(slices.Values(drawnPaths[1:])) {
		if _, there := tree[modelUp(path)]; there && len(tree) < 20 && r.IntN(3) > 0 {
			tree[path] = impl.Znode{Path: path, Data: drawn(r, drawnData), Version: r.Int64N(1000)}
		}
	}
	nodes := tree.inOrder()
	for i := range nodes[1:] {
		// As a slash is ahead of all that names are made of, kids stand right behind their parent.
		if z := &nodes[i+1]; i+2 == len(nodes) || !strings.HasPrefix(nodes[i+2].Path, z.Path+"/") {
			z.Owner = r.Int64N(10)
		}
	}
	return nodes
}

func drawnGone(r *rand.Rand) []int64 {
	var ids []int64
	for range drawn(r, []int{0, 1, 1, 2, 2, 3, 9, 10}) {
		ids = append(ids, drawn(r, []int64{0, 1, 1, 2, 5, 9, 9, -1, 10}))
	}
	return ids
}

func drawnSessionCall(r *rand.Rand) sessionCall {
	now := drawn(r, drawnNows)
	c := sessionCall{list: drawnSessions(r, now), id: drawn(r, drawnIds), now: now, nodes: drawnOwned(r), ids: drawnGone(r)}
	switch r.IntN(12) {
	case 0:
		c.id = drawn(r, []int64{-1, 0, 10})
	case 1:
		c.now = drawn(r, []int64{-1, 9001})
	case 2, 3:
		c.list = spoiltSessions(r, c.list)
	case 4:
		c.nodes = spoilt(r, c.nodes)
	}
	return c
}
