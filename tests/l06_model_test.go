package tests

import (
	"math/rand/v2"
	"reflect"
	"slices"
	"strings"

	"loop.example/g00369/impl"
)

// The model tells chapter 6 a second time: it never turns a state and puts it back. What comes of an operation is worked out beside the state, and taken over at the end alone.
type modelCame struct {
	reply    impl.Reply
	nodes    []impl.Znode
	sessions []impl.Session
}

func modelNoReply(r impl.Reply) bool {
	return modelOutside(r.Code, 10) || r.Value != -1 && modelOutside(r.Value, 9999) || len([]byte(r.Path)) >= 25
}

type markKey struct {
	client int64
	number int64
}

func modelMarks(marks []impl.Mark) map[markKey]impl.Reply {
	all := map[markKey]impl.Reply{}
	for _, m := range marks {
		all[markKey{m.Client, m.Number}] = m.Reply
	}
	return all
}

func modelMarksFault(marks []impl.Mark) int64 {
	seen := map[markKey]bool{}
	for _, m := range marks {
		switch {
		case modelNoId(m.Client), m.Number == 0, modelOutside(m.Number, 99), modelNoReply(m.Reply):
			return impl.ErrRange
		case seen[markKey{m.Client, m.Number}]:
			return impl.ErrTaken
		}
		seen[markKey{m.Client, m.Number}] = true
	}
	return impl.OK
}

func modelStateFault(s impl.State) int64 {
	for _, code := range []int64{modelTreeFault(s.Nodes), modelSessionsFault(s.Sessions)} {
		if code != impl.OK {
			return code
		}
	}
	switch {
	case modelOutside(s.Now, 9000):
		return impl.ErrRange
	case len(s.Marks) >= 41:
		return impl.ErrMany
	}
	return modelMarksFault(s.Marks)
}

func modelNewState(now int64) impl.StateResult {
	if modelOutside(now, 9000) {
		return impl.StateResult{Code: impl.ErrRange}
	}
	return impl.StateResult{State: impl.State{Nodes: []impl.Znode{{Path: "/"}}, Now: now}}
}

// modelOfTree works out the kinds that ask the tree alone.
func modelOfTree(nodes []impl.Znode, client int64, o impl.Op) (impl.Reply, []impl.Znode) {
	owner := map[bool]int64{true: client}[o.Own]
	switch o.Kind {
	case impl.OpCreate:
		z := modelCreate(nodes, o.Path, o.Data, owner, o.Seq)
		return impl.Reply{Code: z.Code, Path: z.Path}, z.Nodes
	case impl.OpDelete:
		z := modelDelete(nodes, o.Path, o.Version)
		return impl.Reply{Code: z.Code}, z.Nodes
	case impl.OpSet:
		z := modelSet(nodes, o.Path, o.Data, o.Version)
		return impl.Reply{Code: z.Code, Value: modelOf(z.Nodes)[o.Path].Version}, z.Nodes
	case impl.OpKids:
		kids := modelKids(nodes, o.Path)
		return impl.Reply{Code: kids.Code, Value: int64(len(kids.Texts))}, nodes
	}
	z, there := modelOf(nodes)[o.Path]
	switch {
	case !there:
		return impl.Reply{Code: impl.ErrNone}, nodes
	case o.Kind == impl.OpGet:
		return impl.Reply{Value: z.Data}, nodes
	case o.Version != -1 && o.Version != z.Version:
		return impl.Reply{Code: impl.ErrVersion}, nodes
	}
	return impl.Reply{Value: z.Version}, nodes
}

// modelDo works out one operation without a fault.
func modelDo(now int64, had modelCame, client int64, o impl.Op) modelCame {
	came := had
	roll := modelRollOf(had.sessions)
	switch {
	case o.Kind == impl.OpOpen:
		opened := modelOpen(had.sessions, client, now)
		came.reply, came.sessions = impl.Reply{Code: opened.Code}, opened.Sessions
	case roll[client] < now:
		came.reply = impl.Reply{Code: impl.ErrSession}
	case o.Kind == impl.OpClose:
		roll[client] = nobodyThere
		came.reply, came.sessions = impl.Reply{}, roll.told(always)
		came.nodes = modelDrop(had.nodes, []int64{client}).Nodes
	default:
		came.reply, came.nodes = modelOfTree(had.nodes, client, o)
	}
	return came
}

func modelApplyOp(s impl.State, client int64, o impl.Op) impl.StateResult {
	code := modelStateFault(s)
	if code == impl.OK && modelNoId(client) {
		code = impl.ErrRange
	}
	if code == impl.OK {
		code = modelOpFault(o)
	}
	if code != impl.OK {
		return impl.StateResult{Code: code}
	}
	came := modelDo(s.Now, modelCame{nodes: s.Nodes, sessions: s.Sessions}, client, o)
	if came.reply.Code == impl.OK {
		s.Nodes, s.Sessions = came.nodes, came.sessions
	}
	return impl.StateResult{Reply: came.reply, State: s}
}

// modelMoved is the state at the time of a request, ahead of its operations.
func modelMoved(s impl.State, client int64, time int64) impl.State {
	s.Now = slices.Max([]int64{s.Now, time})
	roll := modelRollOf(s.Sessions)
	for id, until := range roll {
		switch {
		case until < s.Now && until != nobodyThere:
			roll[id] = nobodyThere
			s.Nodes = modelDrop(s.Nodes, []int64{int64(id)}).Nodes
		case int64(id) == client && until != nobodyThere:
			roll[id] = s.Now + 10
		}
	}
	s.Sessions = roll.told(always)
	return s
}

func modelApplyRequest(s impl.State, r impl.Request) impl.StateResult {
	if code := modelStateFault(s); code != impl.OK {
		return impl.StateResult{Code: code}
	}
	if code := modelRequestFault(r); code != impl.OK {
		return impl.StateResult{Code: code}
	}
	if told, done := modelMarks(s.Marks)[markKey{r.Client, r.Number}]; done {
		return impl.StateResult{Reply: told, State: s}
	}
	if len(s.Marks) > 39 {
		return impl.StateResult{Code: impl.ErrMany}
	}
	s = modelMoved(s, r.Client, r.Time)
	came := modelCame{nodes: s.Nodes, sessions: s.Sessions}
	for place := 0; place < len(r.Ops) && came.reply.Code == impl.OK; place++ {
		came = modelDo(s.Now, came, r.Client, r.Ops[place])
		if came.reply.Code != impl.OK {
			came.reply.Value = int64(place)
		}
	}
	if came.reply.Code == impl.OK {
		s.Nodes, s.Sessions = came.nodes, came.sessions
	}
	s.Marks = append(slices.Clone(s.Marks), impl.Mark{Client: r.Client, Number: r.Number, Reply: came.reply})
	return impl.StateResult{Reply: came.reply, State: s}
}

func modelRun(list []impl.Request) impl.StateResult {
	if len(list) >= 41 {
		return impl.StateResult{Code: impl.ErrMany}
	}
	run := modelNewState(0)
	for i := 0; i < len(list) && run.Code == impl.OK; i++ {
		run = modelApplyRequest(run.State, list[i])
	}
	return run
}

func modelMarkOf(s impl.State, client int64, number int64) impl.ReplyResult {
	if code := modelStateFault(s); code != impl.OK {
		return impl.ReplyResult{Code: code}
	}
	told, there := modelMarks(s.Marks)[markKey{client, number}]
	if !there {
		return impl.ReplyResult{Code: impl.ErrNone}
	}
	return impl.ReplyResult{Reply: told}
}

// modelSameStates goes by all that lies in two states, but for what tells nil from an empty list.
func modelSameStates(a impl.State, b impl.State) bool {
	for _, s := range []*impl.State{&a, &b} {
		s.Nodes, s.Sessions, s.Marks = append([]impl.Znode{}, s.Nodes...), append([]impl.Session{}, s.Sessions...), append([]impl.Mark{}, s.Marks...)
	}
	return reflect.DeepEqual(a, b)
}

func modelRootIn(s impl.State) impl.IntResult {
	if code := modelStateFault(s); code != impl.OK {
		return impl.IntResult{Code: code}
	}
	return modelRoot(s.Nodes)
}

// stateCall holds what chapter 6 is asked with.
type stateCall struct {
	state  impl.State
	other  impl.State
	now    int64
	client int64
	number int64
	op     impl.Op
	asked  impl.Request
	list   []impl.Request
}

// stateAnswers holds what chapter 6 says of one call.
type stateAnswers struct {
	fault int64
	made  impl.StateResult
	did   impl.StateResult
	done  impl.StateResult
	run   impl.StateResult
	mark  impl.ReplyResult
	same  bool
	root  impl.IntResult
}

func programStates(c stateCall) stateAnswers {
	return stateAnswers{impl.StateFault(c.state), impl.NewState(c.now), impl.ApplyOp(c.state, c.client, c.op), impl.ApplyRequest(c.state, c.asked), impl.RunRequests(c.list), impl.MarkOf(c.state, c.client, c.number), impl.SameStates(c.state, c.other), impl.RootIn(c.state)}
}

func modelStates(c stateCall) stateAnswers {
	return stateAnswers{modelStateFault(c.state), modelNewState(c.now), modelApplyOp(c.state, c.client, c.op), modelApplyRequest(c.state, c.asked), modelRun(c.list), modelMarkOf(c.state, c.client, c.number), modelSameStates(c.state, c.other), modelRootIn(c.state)}
}

func (a stateAnswers) states() []impl.StateResult {
	return []impl.StateResult{a.made, a.did, a.done, a.run}
}

func sameState(a impl.StateResult, b impl.StateResult) bool {
	return a.Code == b.Code && a.Reply == b.Reply && modelSameStates(a.State, b.State)
}

func sameStateAnswers(a stateAnswers, b stateAnswers) bool {
	return a.fault == b.fault && slices.EqualFunc(a.states(), b.states(), sameState) && a.mark == b.mark && a.same == b.same && a.root == b.root
}

func drawnReply(r *rand.Rand) impl.Reply {
	return impl.Reply{Code: drawn(r, []int64{0, 0, 1, 4, 10}), Value: drawn(r, []int64{-1, 0, 1, 5, 9999}), Path: drawn(r, []string{"", "/a", "no path", strings.Repeat("\xff", 24)})}
}

// drawnMarks draws marks of low numbers, so that a request often has one there.
func drawnMarks(r *rand.Rand, many int) []impl.Mark {
	var marks []impl.Mark
	for _, n := range r.Perm(9 * 8)[:many] {
		marks = append(marks, impl.Mark{Client: int64(n%9) + 1, Number: int64(n/9) + 1, Reply: drawnReply(r)})
	}
	return marks
}

// drawnHung draws a tree with Owners of which some counts are at the edges, or one that is full.
func drawnHung(r *rand.Rand) []impl.Znode {
	nodes := drawnOwned(r)
	if r.IntN(12) == 0 {
		nodes = wideTree(20)
	}
	for range r.IntN(6) {
		z := &nodes[r.IntN(len(nodes))]
		z.Next = drawn(r, []int64{0, 9, 10, 99, 100})
		z.Version = drawn(r, []int64{0, 1, 998, 999, 999})
	}
	return nodes
}

// drawnState draws a state without a fault.
func drawnState(r *rand.Rand) impl.State {
	now := drawn(r, drawnNows)
	return impl.State{Nodes: drawnHung(r), Sessions: drawnSessions(r, now), Now: now, Marks: drawnMarks(r, drawn(r, []int{0, 1, 5, 38, 39, 39, 40}))}
}

func spoiltMarks(r *rand.Rand, marks []impl.Mark) []impl.Mark {
	marks = append(slices.Clone(marks), impl.Mark{Client: 1, Number: 99})
	i, j := r.IntN(len(marks)), r.IntN(len(marks))
	switch r.IntN(7) {
	case 0:
		marks[i].Client = drawn(r, []int64{-1, 0, 1, 9, 10})
	case 1:
		marks[i].Number = drawn(r, []int64{-1, 0, 1, 99, 100})
	case 2:
		marks[i].Reply.Code = drawn(r, []int64{-1, 0, 10, 11})
	case 3:
		marks[i].Reply.Value = drawn(r, []int64{-2, -1, 9999, 10000})
	case 4:
		marks[i].Reply.Path = strings.Repeat("a", 24+r.IntN(2))
	case 5:
		marks = slices.Insert(marks, i, marks[j])
	case 6:
		marks[i], marks[j] = marks[j], marks[i]
	}
	return marks
}

// spoiltState turns one thing of a state, most often into a fault; what is handed in stays as it is.
func spoiltState(r *rand.Rand, s impl.State) impl.State {
	switch r.IntN(9) {
	case 0, 1, 2:
		s.Nodes = spoilt(r, s.Nodes)
	case 3, 4:
		s.Sessions = spoiltSessions(r, s.Sessions)
	case 5:
		s.Now = drawn(r, []int64{-1, 0, 9000, 9001})
	default:
		s.Marks = spoiltMarks(r, s.Marks)
	}
	return s
}

// drawnClient is most often one that has a session.
func drawnClient(r *rand.Rand, s impl.State) int64 {
	if len(s.Sessions) > 0 && r.IntN(4) > 0 {
		return drawn(r, s.Sessions).Id
	}
	return drawn(r, drawnIds)
}

// aimed turns an operation to a node that is there, or to a kid of one, and its Version to that of it.
func aimed(r *rand.Rand, nodes []impl.Znode, o impl.Op) impl.Op {
	if o.Path == "" || len(nodes) == 0 || r.IntN(4) == 0 {
		return o
	}
	at := drawn(r, nodes)
	o.Path = at.Path
	if kid := modelJoin(at.Path, drawn(r, []string{"k", "l", "m", "n", "abcdefgh"})); o.Kind == impl.OpCreate && kid.Code == impl.OK && r.IntN(4) > 0 {
		o.Path = kid.Text
	}
	if o.Version > 0 && r.IntN(4) > 0 {
		o.Version = at.Version
	}
	return o
}

// drawnAsked draws a request at and beside the time of a state, of something that may be done there.
func drawnAsked(r *rand.Rand, s impl.State) impl.Request {
	asked := drawnRequest(r)
	asked.Client, asked.Number = drawnClient(r, s), 1+r.Int64N(9)
	asked.Time = min(max(s.Now+drawn(r, []int64{-10, -1, 0, 0, 1, 2, 10, 11}), 0), 9000)
	for i := range asked.Ops {
		asked.Ops[i] = aimed(r, s.Nodes, asked.Ops[i])
	}
	return asked
}

// drawnStory draws requests that follow the state to which the model comes by them; some of them are asked again.
func drawnStory(r *rand.Rand, many int) []impl.Request {
	var story []impl.Request
	s := modelNewState(0).State
	for len(story) < many {
		asked := drawnAsked(r, s)
		asked.Number = 1 + r.Int64N(30)
		// Time goes on slowly, or all sessions would soon be over.
		asked.Time = max(s.Now+drawn(r, []int64{-1, 0, 0, 0, 1, 1, 2, 3, 11}), 0)
		switch n := r.IntN(10); {
		case n == 0 && len(story) > 0:
			asked = drawn(r, story)
		case n == 1 || len(s.Sessions) < 2:
			asked.Client, asked.Ops = drawn(r, drawnIds), []impl.Op{opOpen}
		case n < 6:
			asked.Ops = []impl.Op{aimed(r, s.Nodes, drawnOpOf(r, modelKinds[2]))}
		}
		story, s = append(story, asked), modelApplyRequest(s, asked).State
	}
	return story
}

func drawnStateCall(r *rand.Rand) stateCall {
	c := stateCall{state: drawnState(r), now: drawn(r, drawnNows), number: 1 + r.Int64N(9)}
	c.client, c.asked = drawnClient(r, c.state), drawnAsked(r, c.state)
	c.op = aimed(r, c.state.Nodes, drawnOp(r))
	c.list = drawnStory(r, drawn(r, []int{0, 1, 2, 3, 8}))
	c.other = c.state
	switch r.IntN(16) {
	case 0, 1, 2:
		c.state = spoiltState(r, c.state)
	case 3:
		c.client, c.number = drawn(r, []int64{-1, 0, 10}), drawn(r, []int64{-1, 0, 100})
	case 4:
		c.op = spoiltOp(r, c.op)
	case 5, 6:
		c.asked = spoiltRequest(r, c.asked)
	case 7:
		c.now = drawn(r, []int64{-1, 9001})
	case 8:
		c.other = spoiltState(r, c.state)
	case 9:
		if len(c.list) > 0 {
			i := r.IntN(len(c.list))
			c.list[i] = spoiltRequest(r, c.list[i])
		}
	}
	return c
}
