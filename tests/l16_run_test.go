package tests

import (
	"fmt"
	"math"
	"math/rand/v2"
	"runtime"
	"slices"
	"strconv"
	"strings"
	"testing"

	"loop.example/g00369/impl"
)

func TestRunScriptCountsBytes(t *testing.T) {
	c := going()
	for _, many := range []int{0, 1, 2, 1499, 1500} {
		checkRun(t, "blanks", c, strings.Repeat(" ", many), saysText(c, impl.OK, ""))
	}
	for _, many := range []int{1501, 1502, 3000, 1 << 16} {
		checkRun(t, "too many blanks", c, strings.Repeat(" ", many), noScript(impl.ErrMany))
		checkRun(t, "too many bytes", c, strings.Repeat("x", many), noScript(impl.ErrMany))
		checkRun(t, "too many bytes and lines", c, strings.Repeat("\n", many), noScript(impl.ErrMany))
	}
	for _, line := range []string{"wink", "\xff", "½"} {
		full := line + strings.Repeat(" ", 1500-len(line))
		checkRun(t, "1500 bytes", c, full, saysText(c, impl.OK, "! 5\n"))
		checkRun(t, "1501 bytes", c, full+" ", noScript(impl.ErrMany))
		checkRun(t, "1500 bytes and a line feed", c, full+"\n", noScript(impl.ErrMany))
		checkRun(t, "1500 bytes with a line feed", c, full[:1499]+"\n", saysText(c, impl.OK, "! 5\n"))
	}
	next := standing(c, withDone(inNew(2, 1, 3), 1))
	line := "done 2" + strings.Repeat(" ", 30) + "\n"
	text := line + strings.Repeat(" ", 1500-len(line))
	checkRun(t, "something is done in 1500 bytes", c, text, saysText(next, impl.OK, "ok\n"))
	checkRun(t, "nothing is done in 1501 bytes", c, text+" ", noScript(impl.ErrMany))
}

func TestRunScriptCountsLines(t *testing.T) {
	c := going()
	shown := impl.ClusterText(c).Text
	lines := []struct {
		line string
		said string
	}{{"", ""}, {" ", ""}, {"wink", "! 5\n"}, {"show", shown}, {"ask 9 9", "! 10\n"}, {"tree 2", "/ 0 0 0\n"}}
	for _, l := range lines {
		for _, many := range []int{0, 1, 2, 39, 40} {
			text := strings.Repeat(l.line+"\n", many)
			checkRun(t, "lines", c, text, saysText(c, impl.OK, strings.Repeat(l.said, many)))
			if many < 40 {
				checkRun(t, "lines, with one that is not ended", c, text+"show", saysText(c, impl.OK, strings.Repeat(l.said, many)+shown))
				checkRun(t, "lines, with blanks that are not ended", c, text+"  ", saysText(c, impl.OK, strings.Repeat(l.said, many)))
			}
		}
		for _, behind := range []string{"\n", " ", "x", "show", "show\n", "done 2\n", "\n\n", "\x00", "\r"} {
			checkRun(t, "41 lines", c, strings.Repeat(l.line+"\n", 40)+behind, noScript(impl.ErrMany))
			checkRun(t, "41 lines or more", c, behind+strings.Repeat("\n"+l.line, 39)+"\nx", noScript(impl.ErrMany))
		}
	}
	// Another byte than a line feed ends no line.
	checkRun(t, "other ends", c, strings.Repeat("\r", 100)+strings.Repeat("\v\f", 100), saysText(c, impl.OK, "! 5\n"))
}

// heard is what a script says where each line says one thing; those that say nothing are left out.
func heard(said ...string) string {
	text := ""
	for _, line := range said {
		if line != "" {
			text += strings.TrimSuffix(line, "\n") + "\n"
		}
	}
	return text
}

func TestRunScriptOfFewLines(t *testing.T) {
	c := going()
	did := standing(c, withDone(inNew(2, 1, 3), 1))
	shown, after := impl.ClusterText(c).Text, impl.ClusterText(did).Text
	cases := []struct {
		text string
		c    impl.Cluster
		said string
	}{
		{"", c, ""},
		{"\n", c, ""},
		{"\n\n\n", c, ""},
		{"  \n \n", c, ""},
		{"show", c, shown},
		{"show\n", c, shown},
		{"\nshow", c, shown},
		{"\n\n show \n\n", c, shown},
		{"show\nshow", c, shown + shown},
		{"done 2", did, "ok\n"},
		{"done 2\n", did, "ok\n"},
		{"done 2\n\nshow\n", did, "ok\n" + after},
		{"show\ndone 2\nshow", did, shown + "ok\n" + after},
		{"done 2\ndone 2\nshow\n", did, "ok\n! 8\n" + after},
		{"done 9\ndone 2\nshow\n", did, "! 4\nok\n" + after},
		{"wink\nshow\nwink\ndone 2\nwink\nshow\nwink", did, "! 5\n" + shown + "! 5\nok\n! 5\n" + after + "! 5\n"},
		{"wink", c, "! 5\n"},
		{"done 2\r\nshow", c, "! 5\n" + shown},
		{"ask 1 1\ndone 2\nask 1 1\ntree 2\n", did, "! 10\nok\ncode 0 0\n/ 0 0 0\n"},
		{"ask 1 1\ndone 2\nask 1 1", did, "! 10\nok\ncode 0 0\n"},
		{"drain\ntree 3", impl.DrainC(c).Cluster, "ok\n/ 2 2 0\n"},
		{"done 2\ndrain", impl.DrainC(did).Cluster, "ok\nok\n"},
	}
	for _, r := range cases {
		checkRun(t, "few lines", c, r.text, saysText(r.c, impl.OK, r.said))
	}
}

// toldLine is a line of a tale, and what is said to it.
type toldLine struct {
	line string
	said string
}

// checkTale tells a cluster a tale: line by line, at once, and cut in two.
func checkTale(t *testing.T, c impl.Cluster, lines []toldLine) impl.Cluster {
	t.Helper()
	text, all, next := "", "", c
	for _, l := range lines {
		told := impl.StepScript(next, l.line)
		said := told.Said
		if told.Code != impl.OK {
			said = fmt.Sprint("! ", told.Code)
		} else {
			next = told.Cluster
		}
		if said != l.said {
			t.Fatalf("%q: %q, want %q, of %s", l.line, said, l.said, impl.ClusterText(next).Text)
		}
		text, all = text+l.line+"\n", all+heard(said)
	}
	checkRun(t, "a tale", c, text, saysText(next, impl.OK, all))
	checkRun(t, "a tale that is not ended", c, strings.TrimSuffix(text, "\n"), saysText(next, impl.OK, all))
	checkCuts(t, c, text)
	return next
}

// checkCuts cuts a script behind each of its line feeds: in two parts, one behind the other, it does what it does in one.
func checkCuts(t *testing.T, c impl.Cluster, text string) (cuts int) {
	t.Helper()
	whole := impl.RunScript(c, text)
	for at := range len(text) {
		if text[at] != '\n' {
			continue
		}
		first := impl.RunScript(c, text[:at+1])
		second := impl.RunScript(first.Cluster, text[at+1:])
		second.Said = first.Said + second.Said
		if first.Code != impl.OK || !sameScript(second, whole) {
			t.Fatalf("of %.300s, %q cut at %d: %s, and at once %s", fmt.Sprint(c), text, at, scriptWords(second), scriptWords(whole))
		}
		cuts++
	}
	return cuts
}

// All commands one behind the other, until something is decided and done, with a bad one that lies.
func TestRunScriptOfAWholeTale(t *testing.T) {
	c := checkTale(t, impl.NewCluster(1, []int64{4}).Cluster, []toldLine{
		{"request 1 1 0 open", "ok"},
		{"request 1 2 1 create /a 5 own", "ok"},
		{"request 1 2 3 get /a", "! 6"},
		{"request 2 1 2 kids /", "ok"},
		{"propose 2 1 1", "! 8"},
		{"propose 1 1 1", "ok"},
		{"propose 1 2 3", "ok"},
		{"prepare 1 0", "ok"},
		{"prepare 2 0", "ok"},
		{"commit 2 1 1", "! 10"},
		{"forge prepare 0 4 1 1", "ok"},
		{"commit 2 1 1", "ok"},
		{"commit 1 1 1", "ok"},
		{"forge commit 0 4 1 1", "ok"},
		{"forge commit 0 3 1 1", "! 10"},
		{"done 3", "ok"},
		{"", ""},
		{"show", "replica 1 0 in 0\nreplica 2 0 in 0\nreplica 3 0 in 1\nlog 1\n"},
		{"ask 1 1", "! 10"},
		{"change 1 1", "ok"},
		{"change 2 1", "ok"},
		{"new 2", "! 10"},
		{"change 3 1", "ok"},
		{"new 2", "ok"},
		{"adopt 3 10", "! 10"},
		{"adopt 3 11", "ok"},
		{"show", "replica 1 1 out 0\nreplica 2 1 in 0\nreplica 3 1 in 1\nlog 1\n"},
		{"propose 2 1 3", "! 1"},
		{"propose 2 1 1", "ok"},
		{"forge propose 1 4 2 2", "ok"},
		{"prepare 3 13", "! 1"},
		{"done 1", "ok"},
		{"ask 1 1", "code 0 0"},
		{"tree 1", "/ 0 0 0\n"},
		{"drain", "ok"},
		{"show", "replica 1 2 in 3\nreplica 2 2 in 3\nreplica 3 2 in 3\nlog 1 2 3\n"},
		{"tree 2", "/ 0 0 0\n/a 5 0 1\n"},
		{"ask 1 2", "code 0 0 /a"},
		{"  ask   2 1", "code 9 0"},
		{"wink", "! 5"},
	})
	for _, one := range c.Replicas {
		if one.Done != 3 || one.View != 2 || len(impl.WaitingC(c).List) != 0 {
			t.Errorf("%+v has not done all", one)
		}
	}
}

// A slot that nobody holds is left empty in a new view; what is decided behind it is done all the same.
func TestRunScriptOfAnEmptySlot(t *testing.T) {
	checkTale(t, impl.NewCluster(1, nil).Cluster, []toldLine{
		{"request 9 9 0 open", "ok"},
		{"request 9 10 0 create /a/b 1", "ok"},
		{"request 9 11 0 create /k 7 seq", "ok"},
		{"propose 1 1 3", "ok"},
		{"propose 1 2 1", "ok"},
		{"prepare 1 1", "ok"},
		{"prepare 2 1", "ok"},
		{"prepare 4 1", "ok"},
		{"prepare 4 1", "! 6"},
		{"commit 1 2 1", "ok"},
		{"drain", "ok"},
		{"show", "replica 1 1 in 4\nreplica 2 1 in 4\nreplica 3 1 in 4\nreplica 4 1 in 4\nlog 0 1 2 3\n"},
		{"ask 9 10", "code 4 0"},
		{"ask 9 11", "code 0 0 /k00"},
		{"ask 9 12", "! 10"},
		{"tree 4", "/ 0 0 0\n/k00 7 0 0\n"},
		{"tree 5", "! 4"},
		{"request 9 12 0 set /k00 8 0", "ok"},
		{"drain", "ok"},
		{"tree 1", "/ 0 0 0\n/k00 8 1 0\n"},
		{"show", "replica 1 2 in 5\nreplica 2 2 in 5\nreplica 3 2 in 5\nreplica 4 2 in 5\nlog 0 1 2 3 4\n"},
		{"request 9 13 0 close", "ok"},
		{"change 4 20", "ok"},
		{"drain", "! 3"},
		{"show", "replica 1 2 in 5\nreplica 2 2 in 5\nreplica 3 2 in 5\nreplica 4 20 out 5\nlog 0 1 2 3 4\n"},
		{"ask 9 12", "code 0 1"},
		{"done 4", "! 8"},
	})
}

// Of seven two may lie.
func TestRunScriptOfSeven(t *testing.T) {
	checkTale(t, impl.NewCluster(2, []int64{2, 6}).Cluster, []toldLine{
		{"request 1 1 0 open", "ok"},
		{"propose 1 1 1", "ok"},
		{"forge prepare 0 2 1 1", "ok"},
		{"forge prepare 0 6 1 1", "ok"},
		{"prepare 1 0", "ok"},
		{"prepare 3 0", "ok"},
		{"commit 1 1 1", "! 10"},
		{"prepare 7 0", "ok"},
		{"prepare 6 0", "! 4"},
		{"commit 1 1 1", "ok"},
		{"commit 3 1 1", "ok"},
		{"commit 4 1 1", "ok"},
		{"forge commit 0 2 1 1", "ok"},
		{"show", "replica 1 0 in 0\nreplica 3 0 in 0\nreplica 4 0 in 0\nreplica 5 0 in 0\nreplica 7 0 in 0\nlog\n"},
		{"forge commit 0 6 1 1", "ok"},
		{"done 1", "ok"},
		{"done 7", "ok"},
		{"ask 1 1", "! 10"},
		{"done 5", "ok"},
		{"ask 1 1", "code 0 0"},
		{"show", "replica 1 0 in 1\nreplica 3 0 in 0\nreplica 4 0 in 0\nreplica 5 0 in 1\nreplica 7 0 in 1\nlog 1\n"},
		{"drain", "ok"},
		{"show", "replica 1 2 in 1\nreplica 3 2 in 1\nreplica 4 2 in 1\nreplica 5 2 in 1\nreplica 7 2 in 1\nlog 1\n"},
	})
}

// Wherever a line with a code stands, what is behind it is done with the cluster as it was.
func TestRunScriptGoesOnBehindACode(t *testing.T) {
	c := going()
	good := []string{"prepare 1 11", "prepare 2 11", "prepare 3 11", "commit 1 2 2", "commit 3 2 2", "commit 2 2 2", "done 1", "ask 1 1"}
	codes := map[string]int64{"wink": impl.ErrText, "done 4": impl.ErrNone, "change 1 1": impl.ErrState, "request 0 0 0 open": impl.ErrRange, "request 1 3 0 open": impl.ErrTaken, "forge commit 0 1 1 1": impl.ErrSign, "propose 2 3 0": impl.ErrForm, "show\x00": impl.ErrText}
	want := impl.RunScript(c, strings.Join(good, "\n"))
	if want.Code != impl.OK || strings.Contains(want.Said, "!") && !strings.HasSuffix(want.Said, "! 10\n") {
		t.Fatalf("what is good: %s", scriptWords(want))
	}
	lines := strings.SplitAfter(want.Said, "\n")
	for line, code := range codes {
		wrong := fmt.Sprintf("! %d\n", code)
		for at := range len(good) + 1 {
			text := strings.Join(slices.Insert(slices.Clone(good), at, line), "\n")
			checkRun(t, "one with a code", c, text, saysText(want.Cluster, impl.OK, strings.Join(slices.Insert(slices.Clone(lines), at, wrong), "")))
		}
		checkRun(t, "codes between all", c, line+"\n"+strings.Join(good, "\n"+line+"\n")+"\n"+line, saysText(want.Cluster, impl.OK, wrong+strings.Join(lines[:len(good)], wrong)+wrong))
	}
}

// readNumbers reads words that are all numbers.
func readNumbers(words ...string) []int64 {
	var numbers []int64
	for _, word := range words {
		n, err := strconv.ParseInt(word, 10, 64)
		if err != nil {
			panic(err)
		}
		numbers = append(numbers, n)
	}
	return numbers
}

// checkReadBack asks promise 17 of what is said of a cluster: it is read back to its replicas, and to the log.
func checkReadBack(t *testing.T, c impl.Cluster) {
	t.Helper()
	lines := strings.Split(impl.ClusterText(c).Text, "\n")
	if len(lines) != len(c.Replicas)+2 || lines[len(c.Replicas)+1] != "" {
		t.Fatalf("of %+v: %q", c, lines)
	}
	for at, one := range c.Replicas {
		words := strings.Split(lines[at], " ")
		if len(words) != 5 || words[0] != "replica" {
			t.Fatalf("of %+v: %q", one, lines[at])
		}
		numbers := readNumbers(words[1], words[2], words[4])
		in := map[string]bool{"in": true, "out": false}
		is, told := in[words[3]]
		// Who is out of its view has nothing to commit there, be it what it may.
		out := impl.MayCommit(c.F, c.Ledger, one, 30, 12) == impl.ErrState
		if !slices.Equal(numbers, []int64{one.Id, one.View, one.Done}) || !told || is == out {
			t.Fatalf("of %+v: %q", one, lines[at])
		}
	}
	words := strings.Split(lines[len(c.Replicas)], " ")
	if log := impl.LogOf(c.F, c.Ledger).List; words[0] != "log" || !slices.Equal(readNumbers(words[1:]...), log) {
		t.Fatalf("of %+v: %q, and the log is %v", c, words, log)
	}
}

// Promise 17: what is said of a cluster is what it is.
func TestClusterIsReadBackFromItsText(t *testing.T) {
	r := rand.New(rand.NewPCG(106, 106))
	out, decided := 0, 0
	for range 400 {
		c := drawnFineAudit(r)
		if r.IntN(2) == 0 {
			c = drawnGoing(r)
		}
		checkReadBack(t, c)
		text := impl.ClusterText(c).Text
		out += strings.Count(text, " out ")
		decided += len(impl.LogOf(c.F, c.Ledger).List)
		if told := impl.StepScript(c, "show"); !sameScript(told, saysText(c, impl.OK, text)) {
			t.Fatalf("of %+v: %s", c, scriptWords(told))
		}
	}
	if out < 200 || decided < 500 {
		t.Errorf("%d were out of their views, %d slots decided", out, decided)
	}
}

// Promise 17: what is said of a tree is what it is, but for the numbers of kids to come.
func TestTreeIsReadBackFromItsText(t *testing.T) {
	r := rand.New(rand.NewPCG(107, 107))
	many := 0
	for range 600 {
		nodes := drawnTree(r)
		var read []impl.Znode
		for line := range strings.Lines(impl.TreeText(nodes).Text) {
			words := strings.Split(strings.TrimSuffix(line, "\n"), " ")
			numbers := readNumbers(words[1:]...)
			read = append(read, impl.Znode{Path: words[0], Data: numbers[0], Version: numbers[1], Owner: numbers[2]})
		}
		for at := range read {
			read[at].Next = nodes[min(at, len(nodes)-1)].Next
		}
		if !slices.Equal(read, nodes) {
			t.Fatalf("of %+v: %+v", nodes, read)
		}
		many += len(nodes)
	}
	if many < 3000 {
		t.Errorf("only %d nodes were told", many)
	}
}

// Promise 17: a script that is cut behind a line feed does in two parts what it does in one; and so does one that is told line by line.
func TestScriptsMayBeCut(t *testing.T) {
	t.Parallel()
	r := rand.New(rand.NewPCG(108, 108))
	cuts, codes := 0, 0
	for range 60 {
		c := drawnFineScript(r)
		if impl.RunScript(c.c, c.text).Code == impl.OK {
			cuts += checkCuts(t, c.c, c.text)
		}
		next, said := c.c, ""
		lines := modelLinesOf(c.text)
		if len(lines) > 40 || len(c.text) > 1500 {
			continue
		}
		for _, line := range lines {
			told := impl.StepScript(next, line)
			if said += modelHeard(told); told.Code == impl.OK {
				next = told.Cluster
			} else {
				codes++
			}
		}
		checkRun(t, "line by line", c.c, c.text, saysText(next, impl.OK, said))
	}
	if cuts < 500 || codes < 200 {
		t.Errorf("only %d cuts, %d codes", cuts, codes)
	}
}

func TestScriptsAreWhatTheModelTells(t *testing.T) {
	t.Parallel()
	r := rand.New(rand.NewPCG(109, 109))
	steps, runs, trees, turned, said := map[int64]int{}, map[int64]int{}, map[int64]int{}, 0, 0
	for range 500 {
		c := drawnScriptCall(r)
		got, want := programScript(c), modelScripts(c)
		if !sameScripts(got, want) {
			t.Fatalf("of %+v, %q, %q:\n%+v, want\n%+v", c, c.line, c.text, got, want)
		}
		steps[got.step.Code]++
		runs[got.run.Code]++
		trees[got.tree.Code]++
		said += strings.Count(got.run.Said, "\n")
		if got.run.Code == impl.OK && !sameClusters(got.run.Cluster, c.c) {
			turned++
		}
	}
	if steps[impl.OK] < 80 || steps[impl.ErrText] < 60 || len(steps) < 9 || runs[impl.OK] < 200 || runs[impl.ErrMany] < 20 || len(runs) < 6 || len(trees) < 5 {
		t.Errorf("the codes: of lines %v, of scripts %v, of trees %v", steps, runs, trees)
	}
	if turned < 100 || said < 2000 {
		t.Errorf("%d clusters turned, %d lines were said", turned, said)
	}
}

// Each line alone, of as many clusters as can be: what is drawn is most often such as may be done.
func TestLinesAreWhatTheModelTells(t *testing.T) {
	t.Parallel()
	r := rand.New(rand.NewPCG(110, 110))
	codes := map[int64]int{}
	done := map[string]int{}
	for range 150 {
		c := drawnFineAudit(r)
		for range 40 {
			line := drawnLine(r, c)
			got, want := impl.StepScript(c, line), modelLine(c, line)
			if !sameScript(got, want) {
				t.Fatalf("of %+v the line %q: %s, want %s", c, line, scriptWords(got), scriptWords(want))
			}
			codes[got.Code]++
			if got.Code == impl.OK {
				name, _, _ := strings.Cut(strings.TrimLeft(line, " "), " ")
				done[name]++
			}
		}
	}
	for _, code := range []int64{impl.ErrForm, impl.ErrMany, impl.ErrRange, impl.ErrNone, impl.ErrText, impl.ErrTaken, impl.ErrState, impl.ErrSign} {
		if codes[code] < 20 {
			t.Errorf("the codes: %v", codes)
		}
	}
	for _, name := range []string{"", "request", "propose", "prepare", "commit", "change", "new", "adopt", "done", "forge", "drain", "ask", "tree", "show"} {
		if done[name] < 10 {
			t.Errorf("done: %v", done)
		}
	}
}

// Promise 1: every argument has an answer, however long a list or a text is or how odd its numbers and bytes are; no panic leaves the package.
func TestEveryScriptIsAnswered(t *testing.T) {
	far := []int64{math.MinInt64, -1, 0, 1, 2, 4, 8, 12, 13, 20, 21, math.MaxInt64}
	every := make([]byte, 256)
	for b := range every {
		every[b] = byte(b)
	}
	lines := []string{"", "\x00", string(every), string(every[33:]), strings.Repeat("9", 1<<12), "done " + strings.Repeat("0", 1<<12), strings.Repeat("request 1 1 1 ", 1<<9), "request 1 1 1 get /" + strings.Repeat("a/", 1<<9), strings.Repeat("show\n", 1<<9), "\xff\xfe forge", "forge propose 9223372036854775807 9223372036854775808 1 1", "new -9223372036854775808", "drain", "ask 9999 9999", "tree 9999", "request 9999 9999 9999 open", "prepare 1 9999", "forge commit 9999 9999 9999 9999"}
	for i, n := range far {
		for j, other := range far {
			odd := said(3, n, other, n, other)
			ledgers := [][]impl.Msg{nil, {odd}, decidedAs(1, 1, 12, 0), slices.Repeat(msgs(odd), 1<<9), starts(), manyMsgs(240), begun()}
			clusters := []impl.Cluster{
				{F: n, Bad: []int64{other}, Replicas: []impl.Replica{{Id: n, View: other, Start: n, Done: other}}, Ledger: ledgers[i%7], Requests: []impl.Request{asked(n, other, n, make([]impl.Op, max(min(n, 1<<9), 0))...)}},
				clusterOf(1, j, ledgers[j%7], other),
				standing(clusterOf(1+int64(i+j)%2, j%13, ledgers[(i+j)%7]), waiting(2, n)),
				standing(clusterOf(1, i, ledgers[6], 4), impl.Replica{Id: 2, View: 1, Start: 7, Done: other}),
			}
			nodes := []impl.Znode{{Path: "/", Data: n, Version: other, Owner: n, Next: other}, {Path: string(every[i : j+i]), Data: other, Version: n}}
			for k, c := range clusters {
				at := i + j + k
				call := scriptCall{c: c, line: lines[at%len(lines)], text: strings.Join([]string{lines[at%len(lines)], lines[(at+j)%len(lines)], lines[(at+i)%len(lines)]}, "\n"), nodes: nodes[:1+k%2]}
				if got, want := answersOf(t, programScript, call), modelScripts(call); !sameScripts(got, want) {
					t.Fatalf("of %.300s: %.600s, want %.600s", fmt.Sprint(call), fmt.Sprint(got), fmt.Sprint(want))
				}
			}
		}
	}
}

// Promise 1: an answer hangs on the arguments alone, so it is the same in whatever order it is asked.
func TestScriptAnswersHangOnArgumentsAlone(t *testing.T) {
	r := rand.New(rand.NewPCG(111, 111))
	checkAgain(t, drawnMany(r, 60, drawnScriptCall), programScript, sameScripts)
}

// Promise 1: nothing runs on when a call has answered, in a drain, with a code or not.
func TestNothingRunsOnBehindScripts(t *testing.T) {
	c := clusterOf(1, 12, nil, 4)
	before := runtime.NumGoroutine()
	for range 20 {
		for _, text := range []string{"drain\ndrain\ndrain\nwink", "propose 1 1 1\ndrain\nask 1 1\ntree 1\nshow", "forge propose 1 4 1 1\ndrain"} {
			impl.RunScript(c, text)
			impl.StepScript(c, "drain")
			if now := runtime.NumGoroutine(); now > before {
				t.Fatalf("%d run, and %d ran ahead", now, before)
			}
		}
	}
}

// spansOfScript are those of all that a call answers; what a line says that turned the cluster is a constant of the program.
func spansOfScript(a scriptAnswers) []span {
	all := slices.Concat(spansOfCluster(a.step.Cluster), spansOfCluster(a.run.Cluster), spanOfText(a.run.Said), spanOfText(a.shown.Text), spanOfText(a.tree.Text), spanOf(a.words.Texts))
	if a.step.Said != "ok" {
		all = append(all, spanOfText(a.step.Said)...)
	}
	for _, word := range a.words.Texts {
		all = append(all, spanOfText(word)...)
	}
	return all
}

// ownScript is a call of which nothing lies where anything else does.
func ownScript(c scriptCall) scriptCall {
	return scriptCall{c: ownCluster(c.c), line: strings.Clone(c.line), text: strings.Clone(c.text), nodes: ownNodes(c.nodes)}
}

func spansOfScriptCall(c scriptCall) []span {
	all := slices.Concat(spansOfCluster(c.c), spanOfText(c.line), spanOfText(c.text), spanOf(c.nodes))
	for _, z := range c.nodes {
		all = append(all, spanOfText(z.Path)...)
	}
	return all
}

// Promise 1: what is answered shares no memory with what is handed in, nor one answer with another, nor two lists of one.
func TestScriptAnswersAreNewMemory(t *testing.T) {
	t.Parallel()
	r := rand.New(rand.NewPCG(112, 112))
	lists := 0
	for range 120 {
		c := ownScript(drawnScriptCall(r))
		first, second, want := programScript(c), programScript(c), modelScripts(ownScript(c))
		told := slices.Concat(spansOfScript(first), spansOfScript(second))
		if lists += len(told); !spansApart(append(told, spansOfScriptCall(c)...)) {
			t.Fatalf("of %+v: %+v shares memory", c, first)
		}
		wipeCluster(first.step.Cluster)
		wipeCluster(first.run.Cluster)
		clear(first.words.Texts[:cap(first.words.Texts)])
		if !sameScripts(second, want) || !sameScripts(programScript(c), want) {
			t.Fatalf("of %+v: who writes into an answer turns another", c)
		}
		wipeCluster(c.c)
		clear(c.nodes[:cap(c.nodes)])
		if !sameScripts(second, want) {
			t.Fatalf("the answer turned with what was handed in: %+v, want %+v", second, want)
		}
	}
	if lists < 3000 {
		t.Errorf("only %d lists and texts were told", lists)
	}
}

// Promise 1: no call changes the cluster, its lists, the nodes, or what lies in them or behind them.
func TestScriptArgumentsStayAsTheyAre(t *testing.T) {
	r := rand.New(rand.NewPCG(113, 113))
	for range 120 {
		c := ownScript(drawnScriptCall(r))
		whole := func() scriptCall {
			w := c
			w.c, w.nodes = wholeCluster(c.c), c.nodes[:cap(c.nodes)]
			return w
		}
		old := ownScript(whole())
		programScript(c)
		if now := whole(); !sameClusters(now.c, old.c) || !slices.Equal(now.nodes, old.nodes) || now.line != old.line || now.text != old.text {
			t.Fatalf("changed: %+v", c)
		}
	}
}
