package tests

import (
	"fmt"
	"math/rand/v2"
	"slices"

	"loop.example/g00369/impl"
)

// The model tells chapter 7 a second time: it has no lists of those that are left. Each watch is followed alone, through all trees, to the first turn that it sees.
func modelSeatFault(client int64, path string) int64 {
	if modelNoId(client) {
		return impl.ErrRange
	}
	return modelFault(path)
}

func modelWatchesFault(list []impl.Watch) int64 {
	if len(list) >= 21 {
		return impl.ErrMany
	}
	for i, w := range list {
		if code := modelSeatFault(w.Client, w.Path); code != impl.OK {
			return code
		}
		if slices.Contains(list[:i], w) {
			return impl.ErrTaken
		}
	}
	return impl.OK
}

func modelAddWatch(list []impl.Watch, w impl.Watch) impl.WatchResult {
	code := modelWatchesFault(list)
	if code == impl.OK {
		code = modelSeatFault(w.Client, w.Path)
	}
	there := slices.Contains(list, w)
	if code == impl.OK && !there && len(list) > 19 {
		code = impl.ErrMany
	}
	switch {
	case code != impl.OK:
		return impl.WatchResult{Code: code}
	case there:
		return impl.WatchResult{Watches: list}
	}
	return impl.WatchResult{Watches: slices.Concat(list, []impl.Watch{w})}
}

// modelTurn is asked of trees without a fault.
func modelTurn(before []impl.Znode, after []impl.Znode, path string) int64 {
	old, was := modelOf(before)[path]
	now, is := modelOf(after)[path]
	if was && is && [2]int64{old.Data, old.Version} != [2]int64{now.Data, now.Version} {
		return 3
	}
	return map[[2]bool]int64{{false, true}: 1, {true, false}: 2}[[2]bool{was, is}]
}

func modelChange(before []impl.Znode, after []impl.Znode, path string) impl.IntResult {
	for _, code := range []int64{modelTreeFault(before), modelTreeFault(after), modelFault(path)} {
		if code != impl.OK {
			return impl.IntResult{Code: code}
		}
	}
	return impl.IntResult{Value: modelTurn(before, after, path)}
}

// modelSeen follows one watch through trees: what it is told, and behind which of them; 0 where it is told nothing.
func modelSeen(w impl.Watch, trees [][]impl.Znode) (impl.Event, int) {
	for i := 1; i < len(trees); i++ {
		if kind := modelTurn(trees[i-1], trees[i], w.Path); kind != 0 {
			return impl.Event{Client: w.Client, Path: w.Path, Kind: kind}, i
		}
	}
	return impl.Event{}, 0
}

// modelFollow lays what all watches saw behind each tree, one behind the other, and those that saw nothing.
func modelFollow(list []impl.Watch, trees [][]impl.Znode) impl.WatchResult {
	told := make([][]impl.Event, len(trees)+1)
	all := impl.WatchResult{}
	for _, w := range list {
		e, at := modelSeen(w, trees)
		if at == 0 {
			all.Watches = append(all.Watches, w)
			continue
		}
		told[at] = append(told[at], e)
	}
	all.Events = slices.Concat(told...)
	return all
}

func modelFire(list []impl.Watch, before []impl.Znode, after []impl.Znode) impl.WatchResult {
	for _, code := range []int64{modelWatchesFault(list), modelTreeFault(before), modelTreeFault(after)} {
		if code != impl.OK {
			return impl.WatchResult{Code: code}
		}
	}
	return modelFollow(list, [][]impl.Znode{before, after})
}

func modelEventText(e impl.Event) impl.TextResult {
	code := modelSeatFault(e.Client, e.Path)
	word := map[int64]string{1: "made", 2: "gone", 3: "turned"}[e.Kind]
	if code == impl.OK && word == "" {
		code = impl.ErrForm
	}
	if code != impl.OK {
		return impl.TextResult{Code: code}
	}
	return impl.TextResult{Text: fmt.Sprintf("event %d %s %s", e.Client, e.Path, word)}
}

// modelTrees are the trees of a story: the new one, and that behind each request.
func modelTrees(list []impl.Request) [][]impl.Znode {
	s := modelNewState(0).State
	trees := [][]impl.Znode{s.Nodes}
	for _, ask := range list {
		s = modelApplyRequest(s, ask).State
		trees = append(trees, s.Nodes)
	}
	return trees
}

func modelRunWatched(list []impl.Request, watches []impl.Watch) impl.WatchResult {
	if code := modelWatchesFault(watches); code != impl.OK {
		return impl.WatchResult{Code: code}
	}
	if code := modelRun(list).Code; code != impl.OK {
		return impl.WatchResult{Code: code}
	}
	return modelFollow(watches, modelTrees(list))
}

// watchCall holds what chapter 7 is asked with.
type watchCall struct {
	list   []impl.Watch
	one    impl.Watch
	before []impl.Znode
	after  []impl.Znode
	path   string
	event  impl.Event
	story  []impl.Request
}

// watchAnswers holds what chapter 7 says of one call.
type watchAnswers struct {
	fault  int64
	added  impl.WatchResult
	change impl.IntResult
	fired  impl.WatchResult
	text   impl.TextResult
	run    impl.WatchResult
}

func programWatches(c watchCall) watchAnswers {
	return watchAnswers{impl.WatchesFault(c.list), impl.AddWatch(c.list, c.one), impl.ChangeOf(c.before, c.after, c.path), impl.FireWatches(c.list, c.before, c.after), impl.EventText(c.event), impl.RunWatched(c.story, c.list)}
}

func modelWatches(c watchCall) watchAnswers {
	return watchAnswers{modelWatchesFault(c.list), modelAddWatch(c.list, c.one), modelChange(c.before, c.after, c.path), modelFire(c.list, c.before, c.after), modelEventText(c.event), modelRunWatched(c.story, c.list)}
}

func (a watchAnswers) results() []impl.WatchResult {
	return []impl.WatchResult{a.added, a.fired, a.run}
}

func sameWatched(a impl.WatchResult, b impl.WatchResult) bool {
	return a.Code == b.Code && slices.Equal(a.Watches, b.Watches) && slices.Equal(a.Events, b.Events)
}

func sameWatchAnswers(a watchAnswers, b watchAnswers) bool {
	return a.fault == b.fault && slices.EqualFunc(a.results(), b.results(), sameWatched) && a.change == b.change && a.text == b.text
}

// drawnTurned turns some nodes of a tree, takes some away and hangs new ones, and leaves a tree.
func drawnTurned(r *rand.Rand, nodes []impl.Znode) []impl.Znode {
	for range r.IntN(8) {
		c := drawnCall(r)
		switch at := drawn(r, nodes); r.IntN(6) {
		case 0, 1:
			nodes = modelTreeOr(modelSet(nodes, at.Path, drawn(r, []int64{at.Data, 7}), -1), nodes)
		case 2:
			nodes = modelTreeOr(modelDelete(nodes, at.Path, -1), nodes)
		case 3, 4:
			nodes = modelTreeOr(modelCreate(nodes, c.path, c.data, c.owner, c.seq), nodes)
		case 5:
			nodes = turnedCounts(r, nodes)
		}
	}
	return nodes
}

func modelTreeOr(z impl.ZResult, nodes []impl.Znode) []impl.Znode {
	if z.Code != impl.OK {
		return nodes
	}
	return z.Nodes
}

// turnedCounts turns one thing of one node, within its bounds.
func turnedCounts(r *rand.Rand, nodes []impl.Znode) []impl.Znode {
	nodes = slices.Clone(nodes)
	z := &nodes[r.IntN(len(nodes))]
	switch r.IntN(4) {
	case 0:
		z.Data = drawn(r, drawnData)
	case 1:
		z.Version = drawn(r, []int64{0, 1, 999})
	case 2:
		z.Next = drawn(r, []int64{0, 1, 100})
	case 3:
		if z.Owner > 0 {
			z.Owner = 1 + z.Owner%9
		}
	}
	return nodes
}

// drawnWatches draws watches, no two alike, most often on one of these paths.
func drawnWatches(r *rand.Rand, many int, paths []string) []impl.Watch {
	var list []impl.Watch
	for len(list) < many {
		w := impl.Watch{Client: drawn(r, drawnIds), Path: drawn(r, drawnPaths)}
		if len(paths) > 0 && r.IntN(4) > 0 {
			w.Path = drawn(r, paths)
		}
		if !slices.Contains(list, w) {
			list = append(list, w)
		}
	}
	return list
}

// spoiltWatches turns one thing of watches, most often into a fault.
func spoiltWatches(r *rand.Rand, list []impl.Watch) []impl.Watch {
	list = append(slices.Clone(list), impl.Watch{Client: 9, Path: "/zz"})
	i, j := r.IntN(len(list)), r.IntN(len(list))
	switch r.IntN(5) {
	case 0:
		list[i].Client = drawn(r, []int64{-1, 0, 1, 9, 10})
	case 1:
		list[i].Path = drawn(r, drawnWrongs)
	case 2:
		list = slices.Insert(list, i, list[j])
	case 3:
		list[i], list[j] = list[j], list[i]
	case 4:
		list = append(list, drawnWatches(r, 20, nil)...)
	}
	return list
}

// pathsOf are the paths that any of the trees has.
func pathsOf(trees ...[]impl.Znode) []string {
	var paths []string
	for _, nodes := range trees {
		paths = append(paths, textsIn(nodes)...)
	}
	slices.Sort(paths)
	return slices.Compact(paths)
}

// drawnFine draws a call in which nothing has a fault.
func drawnFine(r *rand.Rand) watchCall {
	c := watchCall{before: drawnHung(r), story: drawnStory(r, drawn(r, []int{0, 1, 4, 9}))}
	c.after = drawnTurned(r, c.before)
	paths := pathsOf(append(modelTrees(c.story), c.before, c.after)...)
	c.list = drawnWatches(r, drawn(r, []int{0, 1, 2, 5, 10, 19, 20, 20}), paths)
	c.one, c.path = drawnWatches(r, 1, paths)[0], drawn(r, paths)
	if len(c.list) > 0 && r.IntN(3) == 0 {
		c.one = drawn(r, c.list)
	}
	c.event = impl.Event{Client: c.one.Client, Path: c.one.Path, Kind: 1 + r.Int64N(3)}
	return c
}

func drawnWatchCall(r *rand.Rand) watchCall {
	c := drawnFine(r)
	for range r.IntN(3) {
		switch r.IntN(8) {
		case 0, 1:
			c.list = spoiltWatches(r, c.list)
		case 2:
			c.one.Client, c.event.Client = drawn(r, []int64{-1, 0, 10}), drawn(r, []int64{-1, 0, 10})
		case 3:
			c.one.Path, c.event.Path, c.path = drawn(r, drawnWrongs), drawn(r, drawnWrongs), drawn(r, drawnWrongs)
		case 4:
			c.before = spoilt(r, c.before)
		case 5:
			c.after = spoilt(r, c.after)
		case 6:
			c.event.Kind = drawn(r, []int64{-1, 0, 4})
		case 7:
			if len(c.story) > 0 {
				i := r.IntN(len(c.story))
				c.story[i] = spoiltRequest(r, c.story[i])
			}
		}
	}
	return c
}
