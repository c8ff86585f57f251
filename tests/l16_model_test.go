package tests

import (
	"fmt"
	"math/rand/v2"
	"regexp"
	"slices"
	"strings"

	"loop.example/g00369/impl"
)

// The model tells chapter 16 a second time: each command has a form, in which N is a number and OP the words of an operation, and a line is held against one form behind the other. What a form asks is told by the chapters ahead.
type modelForm struct {
	form    string
	does    func(c impl.Cluster, n []int64, op impl.Op) impl.ScriptResult
	pattern *regexp.Regexp
}

var modelForms = []modelForm{
	modelFormOf("request N N N OP", func(c impl.Cluster, n []int64, op impl.Op) impl.ScriptResult {
		return saysOk(impl.OfferC(c, asked(n[0], n[1], n[2], op)))
	}),
	modelFormOf("propose N N N", func(c impl.Cluster, n []int64, _ impl.Op) impl.ScriptResult {
		return saysOk(impl.ProposeC(c, n[0], n[1], n[2]))
	}),
	modelFormOf("prepare N N", func(c impl.Cluster, n []int64, _ impl.Op) impl.ScriptResult {
		return saysOk(impl.PrepareC(c, n[0], n[1]))
	}),
	modelFormOf("commit N N N", func(c impl.Cluster, n []int64, _ impl.Op) impl.ScriptResult {
		return saysOk(impl.CommitC(c, n[0], n[1], n[2]))
	}),
	modelFormOf("change N N", func(c impl.Cluster, n []int64, _ impl.Op) impl.ScriptResult {
		return saysOk(impl.ChangeC(c, n[0], n[1]))
	}),
	modelFormOf("new N", func(c impl.Cluster, n []int64, _ impl.Op) impl.ScriptResult {
		return saysOk(impl.NewC(c, n[0]))
	}),
	modelFormOf("adopt N N", func(c impl.Cluster, n []int64, _ impl.Op) impl.ScriptResult {
		return saysOk(impl.AdoptC(c, n[0], n[1]))
	}),
	modelFormOf("done N", func(c impl.Cluster, n []int64, _ impl.Op) impl.ScriptResult {
		return saysOk(impl.DoneC(c, n[0]))
	}),
	modelFormOf("forge propose N N N N", func(c impl.Cluster, n []int64, _ impl.Op) impl.ScriptResult {
		return saysOk(impl.ForgeC(c, said(impl.MsgPropose, n[0], n[1], n[2], n[3])))
	}),
	modelFormOf("forge prepare N N N N", func(c impl.Cluster, n []int64, _ impl.Op) impl.ScriptResult {
		return saysOk(impl.ForgeC(c, said(impl.MsgPrepare, n[0], n[1], n[2], n[3])))
	}),
	modelFormOf("forge commit N N N N", func(c impl.Cluster, n []int64, _ impl.Op) impl.ScriptResult {
		return saysOk(impl.ForgeC(c, said(impl.MsgCommit, n[0], n[1], n[2], n[3])))
	}),
	modelFormOf("drain", func(c impl.Cluster, _ []int64, _ impl.Op) impl.ScriptResult {
		return saysOk(impl.DrainC(c))
	}),
	modelFormOf("ask N N", func(c impl.Cluster, n []int64, _ impl.Op) impl.ScriptResult {
		told := impl.AskC(c, n[0], n[1], nil)
		text := modelReplyText(told.Reply)
		return saysText(c, told.Code, text.Text)
	}),
	modelFormOf("tree N", func(c impl.Cluster, n []int64, _ impl.Op) impl.ScriptResult {
		told := impl.StateC(c, n[0])
		return saysText(c, told.Code, modelTreeText(told.State.Nodes).Text)
	}),
	modelFormOf("show", func(c impl.Cluster, _ []int64, _ impl.Op) impl.ScriptResult {
		return saysText(c, impl.OK, modelClusterText(c).Text)
	}),
}

const patternNumber = `(0|[1-9]|[1-9][0-9]|[1-9][0-9][0-9]|[1-9][0-9][0-9][0-9])`

func modelFormOf(form string, does func(c impl.Cluster, n []int64, op impl.Op) impl.ScriptResult) modelForm {
	pattern := strings.NewReplacer(" ", " +", "N", patternNumber, "OP", "(?P<op>[^ ].*)").Replace(form)
	return modelForm{form, does, regexp.MustCompile(`\A *` + pattern + ` *\z`)}
}

// read tells whether a line has the form, and what it holds then.
func (m modelForm) read(line string) (numbers []int64, op impl.Op, fits bool) {
	found := m.pattern.FindStringSubmatch(line)
	if found == nil {
		return nil, op, false
	}
	for at, name := range m.pattern.SubexpNames() {
		if name == "op" {
			told := modelParse(strings.Join(modelWords(found[at]), " "))
			return numbers, told.Op, told.Code == impl.OK
		}
		if at > 0 {
			numbers = append(numbers, int64(atoi(found[at])))
		}
	}
	return numbers, op, true
}

// modelWords goes from byte to byte; a word is over where a blank is, and at the end.
func modelWords(line string) []string {
	var words []string
	word := []byte{}
	for _, b := range append([]byte(line), ' ') {
		switch {
		case b != ' ':
			word = append(word, b)
		case len(word) > 0:
			words, word = append(words, string(word)), nil
		}
	}
	return words
}

func modelTreeText(nodes []impl.Znode) impl.TextResult {
	if code := modelTreeFault(nodes); code != impl.OK {
		return noText(code)
	}
	text := ""
	for _, z := range nodes {
		text += fmt.Sprintf("%s %d %d %d\n", z.Path, z.Data, z.Version, z.Owner)
	}
	return textOf(text)
}

func modelClusterText(c impl.Cluster) impl.TextResult {
	if code := modelClusterFault(c); code != impl.OK {
		return noText(code)
	}
	text := ""
	for _, one := range c.Replicas {
		where := map[bool]string{true: "in", false: "out"}[one.View == 0 || one.Start >= 0]
		text += fmt.Sprintf("replica %d %d %s %d\n", one.Id, one.View, where, one.Done)
	}
	log := strings.Trim(fmt.Sprint(modelLogIn(c.F, c.Ledger)), "[]")
	return textOf(text + strings.TrimSuffix("log "+log, " ") + "\n")
}

func modelLine(c impl.Cluster, line string) impl.ScriptResult {
	code := modelFirst(
		func() int64 { return modelClusterFault(c) },
		modelWhen(impl.ErrText, func() bool { return strings.Count(line, "\n") > 0 }),
	)
	if code != impl.OK || strings.Trim(line, " ") == "" {
		return saysText(c, code, "")
	}
	for _, m := range modelForms {
		if numbers, op, fits := m.read(line); fits {
			return m.does(c, numbers, op)
		}
	}
	return noScript(impl.ErrText)
}

// modelLinesOf leaves out what is behind the last line feed where nothing is there.
func modelLinesOf(text string) []string {
	lines := strings.Split(text, "\n")
	if last := len(lines) - 1; lines[last] == "" {
		lines = lines[:last]
	}
	return lines
}

// modelHeard is what is heard of what a line said.
func modelHeard(told impl.ScriptResult) string {
	if told.Code != impl.OK {
		return fmt.Sprintf("! %d\n", told.Code)
	}
	heard := ""
	for _, line := range modelLinesOf(told.Said) {
		heard += line + "\n"
	}
	return heard
}

func modelScript(c impl.Cluster, text string) impl.ScriptResult {
	lines := modelLinesOf(text)
	code := modelFirst(
		func() int64 { return modelClusterFault(c) },
		modelWhen(impl.ErrMany, func() bool { return len(text) >= 1501 || len(lines) >= 41 }),
	)
	if code != impl.OK {
		return noScript(code)
	}
	heard := ""
	for _, line := range lines {
		told := modelLine(c, line)
		heard += modelHeard(told)
		if told.Code == impl.OK {
			c = told.Cluster
		}
	}
	return saysText(c, impl.OK, heard)
}

func noScript(code int64) impl.ScriptResult {
	return impl.ScriptResult{Code: code}
}

// saysText is what is told of a cluster that stays, if there is no code.
func saysText(c impl.Cluster, code int64, text string) impl.ScriptResult {
	if code != impl.OK {
		return noScript(code)
	}
	return impl.ScriptResult{Cluster: c, Said: text}
}

// saysOk is what is told of a cluster that turned, if there is no code.
func saysOk(told impl.ClusterResult) impl.ScriptResult {
	return saysText(told.Cluster, told.Code, "ok")
}

func sameScript(a impl.ScriptResult, b impl.ScriptResult) bool {
	return a.Code == b.Code && a.Said == b.Said && sameClusters(a.Cluster, b.Cluster)
}

// scriptCall holds what chapter 16 is asked with.
type scriptCall struct {
	c     impl.Cluster
	line  string
	text  string
	nodes []impl.Znode
}

// scriptAnswers holds what chapter 16 says of one call.
type scriptAnswers struct {
	step  impl.ScriptResult
	run   impl.ScriptResult
	shown impl.TextResult
	tree  impl.TextResult
	words impl.TextsResult
}

func programScript(c scriptCall) scriptAnswers {
	return scriptAnswers{impl.StepScript(c.c, c.line), impl.RunScript(c.c, c.text), impl.ClusterText(c.c), impl.TreeText(c.nodes), impl.WordsOf(c.line)}
}

func modelScripts(c scriptCall) scriptAnswers {
	return scriptAnswers{modelLine(c.c, c.line), modelScript(c.c, c.text), modelClusterText(c.c), modelTreeText(c.nodes), impl.TextsResult{Texts: modelWords(c.line)}}
}

func sameScripts(a scriptAnswers, b scriptAnswers) bool {
	return sameScript(a.step, b.step) && sameScript(a.run, b.run) && a.shown == b.shown && a.tree == b.tree && sameTexts(a.words, b.words)
}

// lineWith is a form with numbers, and an operation, in their places.
func lineWith(form string, op string, numbers ...int64) string {
	for _, n := range numbers {
		form = strings.Replace(form, "N", fmt.Sprint(n), 1)
	}
	return strings.Replace(form, "OP", op, 1)
}

// drawnDoing draws a line of something that is most often such as may be done.
func drawnDoing(r *rand.Rand, c impl.Cluster) string {
	one := drawn(r, c.Replicas)
	lead := modelPrimary(c.F, one.View).Value
	slot, value := 1+r.Int64N(3), r.Int64N(int64(len(c.Requests))+1)
	switch n := r.IntN(24); {
	case n < 2:
		asked := drawnOffered(r, 1)[0]
		return lineWith("request N N N OP", modelOpText(drawn(r, append(asked.Ops, drawnOp(r)))).Text, asked.Client, asked.Number, asked.Time)
	case n < 5:
		return lineWith("propose N N N", "", lead, slot, value)
	case n < 9:
		return lineWith("prepare N N", "", one.Id, drawnPlace(r, c.Ledger, impl.MsgPropose))
	case n < 13:
		if at := drawnPlace(r, c.Ledger, impl.MsgPrepare); at >= 0 {
			slot, value = c.Ledger[at].Slot, c.Ledger[at].Value
		}
		return lineWith("commit N N N", "", one.Id, slot, value)
	case n == 13:
		return lineWith("change N N", "", one.Id, drawn(r, []int64{1, 1, 1, 2, 2, 3}))
	case n < 16:
		return lineWith("new N", "", lead)
	case n < 19:
		return lineWith("adopt N N", "", drawnWaiting(r, c).Id, drawnPlace(r, c.Ledger, impl.MsgNew))
	case n < 21:
		return lineWith("done N", "", one.Id)
	case n == 21:
		return "drain"
	}
	from := drawn(r, append(slices.Clone(c.Bad), 4))
	return lineWith("forge "+drawn(r, []string{"propose", "prepare", "commit"})+" N N N N", "", one.View, from, slot, value)
}

// drawnWaiting draws one whose view has not begun, if there is one.
func drawnWaiting(r *rand.Rand, c impl.Cluster) impl.Replica {
	waiting := slices.DeleteFunc(slices.Clone(c.Replicas), func(one impl.Replica) bool { return one.View == 0 || one.Start >= 0 })
	if len(waiting) == 0 {
		return drawn(r, c.Replicas)
	}
	return drawn(r, waiting)
}

// drawnAsking draws a line of something that is only asked.
func drawnAsking(r *rand.Rand, c impl.Cluster) string {
	one := drawn(r, append(drawnRequests(r, 1), c.Requests...))
	return drawn(r, []string{"show", lineWith("tree N", "", 1+r.Int64N(4)), lineWith("ask N N", "", one.Client, one.Number)})
}

// spoiltLine turns one thing of a line, most often into a fault.
func spoiltLine(r *rand.Rand, line string) string {
	words := strings.Split(line, " ")
	i, j := r.IntN(len(words)), r.IntN(len(words))
	switch r.IntN(10) {
	case 0:
		return strings.Join(slices.Delete(words, i, i+1), " ")
	case 1:
		return strings.Join(slices.Insert(words, i, drawn(r, words)), " ")
	case 2:
		words[i] = drawn(r, []string{"00", "01", "10000", "-1", "+1", "0", "9999", "x", "1x", ""})
	case 3:
		words[i], words[j] = words[j], words[i]
	case 4:
		words[i] = strings.ToUpper(words[i])
	case 5:
		words[i] += drawn(r, []string{"\n", "\t", "\r", "\x00", "\xff", "  ", "   "})
	case 6:
		return strings.Repeat(" ", i) + strings.Join(words, strings.Repeat(" ", 1+j)) + strings.Repeat(" ", r.IntN(3))
	case 7:
		words[0] = drawn(r, modelForms).form
	case 8:
		return drawnOpText(r)
	case 9:
		return strings.Repeat(" ", i)
	}
	return strings.Join(words, " ")
}

func drawnLine(r *rand.Rand, c impl.Cluster) string {
	line := drawnDoing(r, c)
	if r.IntN(6) == 0 {
		line = drawnAsking(r, c)
	}
	for range r.IntN(8) / 6 {
		line = spoiltLine(r, line)
	}
	return line
}

// drawnText draws a script of which each line is told to what those ahead of it come to.
func drawnText(r *rand.Rand, c impl.Cluster) string {
	text := ""
	for range drawn(r, []int{0, 1, 3, 10, 20, 39, 40}) {
		line := drawnLine(r, c)
		if told := impl.StepScript(c, line); told.Code == impl.OK {
			c = told.Cluster
		}
		text += line + "\n"
	}
	switch r.IntN(8) {
	case 0:
		text = strings.TrimSuffix(text, "\n")
	case 1:
		text += drawn(r, []string{"\n", "\n\n", " ", "show", " \n"})
	case 2:
		text += strings.Repeat(" ", max(0, 1499+r.IntN(3)-len(text)))
	}
	return text
}

// drawnFineScript draws a call around a cluster without a fault.
func drawnFineScript(r *rand.Rand) scriptCall {
	c := scriptCall{c: drawnFineAudit(r), nodes: drawnTree(r)}
	if r.IntN(3) == 0 {
		c.c = drawnGoing(r)
	}
	c.line, c.text = drawnLine(r, c.c), drawnText(r, c.c)
	return c
}

// drawnScriptCall draws a call in which some is turned, most often into a fault.
func drawnScriptCall(r *rand.Rand) scriptCall {
	c := drawnFineScript(r)
	for range r.IntN(9) / 7 {
		c.c = spoiltCluster(r, c.c)
	}
	for range r.IntN(3) {
		c.nodes = spoilt(r, c.nodes)
	}
	return c
}
