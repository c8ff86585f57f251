package tests

import (
	"fmt"
	"slices"
	"strings"
	"testing"

	"loop.example/g00369/impl"
)

// checkNobodyWrites asks of a cluster with a fault: all that is told a cluster tells that alone, whatever the line or the text.
func checkNobodyWrites(t *testing.T, name string, c impl.Cluster, fault int64) {
	t.Helper()
	if got := impl.ClusterText(c); got != noText(fault) {
		t.Errorf("%s, of %.300s: ClusterText %+v, want the code %d alone", name, fmt.Sprint(c), got, fault)
	}
	for _, line := range []string{"", " ", "show", "drain", "done 1", "ask 1 1", "tree 1", "new 0", "request 1 1 1 open", "wink", "\n", "show\n", strings.Repeat("show\n", 41), strings.Repeat(" ", 1501)} {
		checkStep(t, name, c, line, noScript(fault))
		checkRun(t, name, c, line, noScript(fault))
	}
}

func checkStep(t *testing.T, name string, c impl.Cluster, line string, want impl.ScriptResult) {
	t.Helper()
	if got := impl.StepScript(c, line); !sameScript(got, want) {
		t.Errorf("%s: of %.300s the line %.200q: %.900s, want %.900s", name, fmt.Sprint(c), line, scriptWords(got), scriptWords(want))
	}
}

func checkRun(t *testing.T, name string, c impl.Cluster, text string, want impl.ScriptResult) {
	t.Helper()
	if got := impl.RunScript(c, text); !sameScript(got, want) {
		t.Errorf("%s: of %.300s the text %.900q: %.1500s, want %.1500s", name, fmt.Sprint(c), text, scriptWords(got), scriptWords(want))
	}
}

// scriptWords begin with what is most often wrong.
func scriptWords(told impl.ScriptResult) string {
	return fmt.Sprintf("the code %d, %q, of %v", told.Code, told.Said, told.Cluster)
}

// checkNoLine asks that lines have no form: the code is that alone.
func checkNoLine(t *testing.T, c impl.Cluster, lines ...string) {
	t.Helper()
	for _, line := range lines {
		checkStep(t, "no line", c, line, noScript(impl.ErrText))
	}
}

func TestScriptBounds(t *testing.T) {
	if impl.MaxScript != 1500 || impl.MaxLines != 40 {
		t.Errorf("MaxScript %d, MaxLines %d, want 1500 and 40", impl.MaxScript, impl.MaxLines)
	}
}

func TestWordsOf(t *testing.T) {
	cases := []struct {
		line string
		want []string
	}{
		{"", nil},
		{" ", nil},
		{"     ", nil},
		{"a", []string{"a"}},
		{" a", []string{"a"}},
		{"a ", []string{"a"}},
		{"   a   ", []string{"a"}},
		{"a b", []string{"a", "b"}},
		{"b a", []string{"b", "a"}},
		{"a    b", []string{"a", "b"}},
		{" a  b ", []string{"a", "b"}},
		{"a a a", []string{"a", "a", "a"}},
		{"request 1 3 0 get /a", []string{"request", "1", "3", "0", "get", "/a"}},
		{"\n", []string{"\n"}},
		{"\t \t", []string{"\t", "\t"}},
		{"a\tb\nc\rd\x00e\vf\fg", []string{"a\tb\nc\rd\x00e\vf\fg"}},
		{"a\u00a0b\u3000c\u2003d\u0085e", []string{"a\u00a0b\u3000c\u2003d\u0085e"}},
		{"\xa0 \x85\xff\xfe \xe3\x80", []string{"\xa0", "\x85\xff\xfe", "\xe3\x80"}},
		{"\x1f!\x7f", []string{"\x1f!\x7f"}},
	}
	for _, c := range cases {
		if got := impl.WordsOf(c.line); got.Code != impl.OK || !slices.Equal(got.Texts, c.want) {
			t.Errorf("%q: %q, want %q", c.line, got.Texts, c.want)
		}
	}
}

// Of all bytes the blank alone is none of a word.
func TestWordsOfEveryByte(t *testing.T) {
	for b := range 256 {
		other := string([]byte{byte(b)})
		cases := map[string][]string{
			other:                        {other},
			"a" + other:                  {"a" + other},
			other + "a":                  {other + "a"},
			"a" + other + "b":            {"a" + other + "b"},
			" " + other + " a" + other:   {other, "a" + other},
			other + other + "  " + other: {other + other, other},
		}
		if b == ' ' {
			cases = map[string][]string{other: nil, "a" + other + "b": {"a", "b"}}
		}
		for line, want := range cases {
			if got := impl.WordsOf(line); got.Code != impl.OK || !slices.Equal(got.Texts, want) {
				t.Errorf("%q: %q, want %q", line, got.Texts, want)
			}
		}
	}
	long := strings.Repeat("ab  ", 1<<12)
	if got := impl.WordsOf(long).Texts; len(got) != 1<<12 || got[1<<12-1] != "ab" {
		t.Errorf("a long line has %d words", len(got))
	}
}

// checkTreeText is asked of all trees that TreeFault is asked of in a table, too.
func checkTreeText(t *testing.T, name string, nodes []impl.Znode, fault int64) {
	t.Helper()
	got := impl.TreeText(nodes)
	if got.Code != fault || fault != impl.OK && got != noText(fault) || fault == impl.OK && strings.Count(got.Text, "\n") != len(nodes) {
		t.Errorf("%s: TreeText of %+v: %+v, want the code %d", name, nodes, got, fault)
	}
}

func TestTreeText(t *testing.T) {
	cases := []struct {
		name  string
		nodes []impl.Znode
		want  impl.TextResult
	}{
		{"none", nil, noText(impl.ErrNone)},
		{"no nodes", []impl.Znode{}, noText(impl.ErrNone)},
		{"a new one", impl.NewTree(0).Nodes, textOf("/ 0 0 0\n")},
		{"a new one with 3", impl.NewTree(3).Nodes, textOf("/ 3 0 0\n")},
		{"a new one with much", impl.NewTree(9999).Nodes, textOf("/ 9999 0 0\n")},
		{"all that a node can have", []impl.Znode{{Path: "/", Data: 1, Version: 2, Next: 100}, {Path: "/a", Data: 3, Version: 4, Owner: 5, Next: 6}}, textOf("/ 1 2 0\n/a 3 4 5\n")},
		{"nothing but a path", treeOf("/a", "/b"), textOf("/ 0 0 0\n/a 0 0 0\n/b 0 0 0\n")},
		{"the greatest of all", []impl.Znode{{Path: "/", Data: 9999, Version: 999, Next: 100}, {Path: "/zzzzzzzz", Data: 9999, Version: 999, Owner: 9, Next: 100}}, textOf("/ 9999 999 0\n/zzzzzzzz 9999 999 9\n")},
		{"one above the other", treeOf("/a", "/a/b", "/a/b/c", "/a/b/c/d", "/a0"), textOf("/ 0 0 0\n/a 0 0 0\n/a/b 0 0 0\n/a/b/c 0 0 0\n/a/b/c/d 0 0 0\n/a0 0 0 0\n")},
		{"the longest path", treeOf("/abcdefgh", "/abcdefgh/abcdefgh", "/abcdefgh/abcdefgh/12345"), textOf("/ 0 0 0\n/abcdefgh 0 0 0\n/abcdefgh/abcdefgh 0 0 0\n/abcdefgh/abcdefgh/12345 0 0 0\n")},
		{"21 nodes", wideTree(21), noText(impl.ErrMany)},
		{"too long a path", treeOf("/abcdefgh/abcdefgh/abcdef"), noText(impl.ErrMany)},
		{"no path", treeOf("/A"), noText(impl.ErrText)},
		{"a path with a blank", treeOf("/a b"), noText(impl.ErrText)},
		{"a path with a line feed", treeOf("/a\n"), noText(impl.ErrText)},
		{"Data beyond its bounds", treeWith(impl.Znode{Path: "/a", Data: 10000}, "/a"), noText(impl.ErrRange)},
		{"Data below its bounds", treeWith(impl.Znode{Path: "/a", Data: -1}, "/a"), noText(impl.ErrRange)},
		{"Version beyond its bounds", treeWith(impl.Znode{Path: "/a", Version: 1000}, "/a"), noText(impl.ErrRange)},
		{"Owner beyond its bounds", treeWith(impl.Znode{Path: "/a", Owner: 10}, "/a"), noText(impl.ErrRange)},
		{"Next beyond its bounds, though it is not told", treeWith(impl.Znode{Path: "/a", Next: 101}, "/a"), noText(impl.ErrRange)},
		{"it does not rise", treeOf("/b", "/a"), noText(impl.ErrForm)},
		{"no top", []impl.Znode{{Path: "/a"}}, noText(impl.ErrNone)},
		{"no parent", treeOf("/a/b"), noText(impl.ErrNone)},
		{"a parent with an Owner", treeWith(impl.Znode{Path: "/a", Owner: 1}, "/a", "/a/b"), noText(impl.ErrForm)},
	}
	for _, c := range cases {
		if got := impl.TreeText(c.nodes); got != c.want {
			t.Errorf("%s: %+v, want %+v", c.name, got, c.want)
		}
	}
	want := "/ 0 0 0\n"
	for _, letter := range "abcdefghijklmnopqrs" {
		want += fmt.Sprintf("/k%c 0 0 0\n", letter)
	}
	if got := impl.TreeText(wideTree(20)); got != textOf(want) {
		t.Errorf("20 nodes: %+v", got)
	}
}

func checkShown(t *testing.T, name string, c impl.Cluster, want ...string) {
	t.Helper()
	checkCluster(t, name, c, impl.OK)
	text := strings.Join(want, "\n") + "\n"
	if got := impl.ClusterText(c); got != textOf(text) {
		t.Errorf("%s: %+v, want %q", name, got, text)
	}
	checkStep(t, name, c, "show", saysText(c, impl.OK, text))
}

func TestClusterTextOfNewOnes(t *testing.T) {
	begin := func(f int64, bad ...int64) impl.Cluster { return impl.NewCluster(f, bad).Cluster }
	checkShown(t, "of four", begin(1), "replica 1 0 in 0", "replica 2 0 in 0", "replica 3 0 in 0", "replica 4 0 in 0", "log")
	checkShown(t, "of four, the first is bad", begin(1, 1), "replica 2 0 in 0", "replica 3 0 in 0", "replica 4 0 in 0", "log")
	checkShown(t, "of four, the last is bad", begin(1, 4), "replica 1 0 in 0", "replica 2 0 in 0", "replica 3 0 in 0", "log")
	checkShown(t, "of seven", begin(2), "replica 1 0 in 0", "replica 2 0 in 0", "replica 3 0 in 0", "replica 4 0 in 0", "replica 5 0 in 0", "replica 6 0 in 0", "replica 7 0 in 0", "log")
	checkShown(t, "of seven, one is bad", begin(2, 3), "replica 1 0 in 0", "replica 2 0 in 0", "replica 4 0 in 0", "replica 5 0 in 0", "replica 6 0 in 0", "replica 7 0 in 0", "log")
	checkShown(t, "of seven, two are bad", begin(2, 2, 6), "replica 1 0 in 0", "replica 3 0 in 0", "replica 4 0 in 0", "replica 5 0 in 0", "replica 7 0 in 0", "log")
	checkShown(t, "with requests alone", clusterOf(1, 12, nil, 2), "replica 1 0 in 0", "replica 3 0 in 0", "replica 4 0 in 0", "log")
}

func TestClusterTextOfViews(t *testing.T) {
	c := clusterOf(1, 3, starts(), 1)
	checkShown(t, "none has begun a view", c, "replica 2 0 in 0", "replica 3 0 in 0", "replica 4 0 in 0", "log")
	checkShown(t, "in and out of views", allStanding(c, inNew(2, 1, 9), waiting(3, 1)), "replica 2 1 in 0", "replica 3 1 out 0", "replica 4 0 in 0", "log")
	checkShown(t, "out and in", allStanding(c, waiting(2, 5), inNew(3, 5, 10), waiting(4, 2)), "replica 2 5 out 0", "replica 3 5 in 0", "replica 4 2 out 0", "log")
	checkShown(t, "the last view", allStanding(c, inNew(2, 20, 27), waiting(3, 20), waiting(4, 19)), "replica 2 20 in 0", "replica 3 20 out 0", "replica 4 19 out 0", "log")
	first := clusterOf(1, 3, ledgerOf(changesBy(1, 1, 2, 3), msgs(beginning(1, 2, 0, 1, 2))))
	checkShown(t, "all in one view", allStanding(first, inNew(1, 1, 3), inNew(2, 1, 3), inNew(3, 1, 3), inNew(4, 1, 3)), "replica 1 1 in 0", "replica 2 1 in 0", "replica 3 1 in 0", "replica 4 1 in 0", "log")
	// What a view begins with may stand at place 0, if it is no start: nobody begins there.
	checkCluster(t, "a start that is none", standing(clusterOf(1, 0, msgs(beginning(1, 2))), inNew(2, 1, 0)), impl.ErrForm)
}

func TestClusterTextOfLogs(t *testing.T) {
	log := func(f int64, values ...int64) impl.Cluster { return clusterOf(f, 12, decidedAs(f, values...), 2) }
	shows := func(name string, c impl.Cluster, want string) {
		t.Helper()
		checkShown(t, name, c, "replica 1 0 in 0", "replica 3 0 in 0", "replica 4 0 in 0", want)
	}
	shows("one value", log(1, 1), "log 1")
	shows("three values", log(1, 2, 1, 3), "log 2 1 3")
	shows("of two digits", log(1, 12, 10, 11), "log 12 10 11")
	shows("one twice", log(1, 5, 5), "log 5 5")
	shows("an empty slot", log(1, 0), "log 0")
	shows("an empty slot ahead", log(1, 0, 3), "log 0 3")
	shows("an empty slot behind", log(1, 3, 0), "log 3 0")
	shows("empty slots between", log(1, 3, 0, 0, 7), "log 3 0 0 7")
	shows("up to a slot that is not decided", log(1, 3, 4, open, 7), "log 3 4")
	shows("the first slot is not decided", log(1, open, 4, 7), "log")
	shows("all slots", log(1, slices.Repeat([]int64{0, 12, 1}, 10)...), "log"+strings.Repeat(" 0 12 1", 10))
	shows("a value that is no request", clusterOf(1, 0, decidedAs(1, 12), 2), "log 12")
	shows("two values, of which the first one counts", clusterOf(1, 2, ledgerOf(commits(1, 1, 2, 1, 3, 4), commits(0, 1, 1, 1, 3, 4)), 2), "log "+fmt.Sprint(impl.LogOf(1, ledgerOf(commits(1, 1, 2, 1, 3, 4), commits(0, 1, 1, 1, 3, 4))).List[0]))
	c := log(1, 2, 0, 3)
	checkShown(t, "some done", allStanding(c, withDone(inFirst(1), 3), withDone(waiting(3, 7), 1)), "replica 1 0 in 3", "replica 3 7 out 1", "replica 4 0 in 0", "log 2 0 3")
	checkShown(t, "all done", doneBy(log(1, make([]int64, 30)...), 30), "replica 1 0 in 30", "replica 3 0 in 30", "replica 4 0 in 30", "log"+strings.Repeat(" 0", 30))
	checkShown(t, "of seven", doneBy(log(2, 9, 1), 2), "replica 1 0 in 2", "replica 3 0 in 2", "replica 4 0 in 2", "replica 5 0 in 2", "replica 6 0 in 2", "replica 7 0 in 2", "log 9 1")
}

// formsOf are all forms with an operation in its place.
func formsOf() []modelForm {
	forms := slices.Clone(modelForms)
	for at := range forms {
		forms[at].form = strings.Replace(forms[at].form, "OP", "set /a 5 any", 1)
	}
	return forms
}

// going is a cluster in which much may be done: of four, of which the last one is bad, all are in View 1, slot 1 is decided and done by the first one, and in slot 2 there is a proposal.
func going() impl.Cluster {
	ledger := ledgerOf(changesBy(1, 1, 2, 3), msgs(beginning(1, 2, 0, 1, 2)), filled(1, 2, 1, 1, 1, 2, 3), msgs(said(1, 1, 2, 2, 2)))
	return allStanding(clusterOf(1, 3, ledger, 4), withDone(inNew(1, 1, 3), 1), inNew(2, 1, 3), inNew(3, 1, 3))
}

func TestNumbersOfLines(t *testing.T) {
	c := going()
	checkCluster(t, "going", c, impl.OK)
	good := []int64{0, 1, 2, 3, 4, 5, 9, 10, 11, 12, 13, 20, 21, 30, 31, 99, 100, 101, 999, 1000, 1001, 9000, 9001, 9998, 9999}
	wrong := []string{"00", "01", "001", "0001", "0000", "00000", "010", "10000", "10001", "99999", "12345678901234567890", "100000000000000000000000000000000000001", "+1", "-1", "-0", "+", "-", "1+", "1-1", "a", "1a", "a1", "1a1", "1.0", ".1", "1.", "1e1", "0x1", "0b1", "1_0", "1,0", "i", "I", "O", "x", "N", "½", "１", "٣", "1\t", "\t1", "1\r", "\x001", "1\x00", "1\xff", "1\u00a0", "!", "/", ":"}
	for _, m := range formsOf() {
		for place := range strings.Count(m.form, "N") {
			numbers := slices.Repeat([]int64{1}, strings.Count(m.form, "N"))
			for _, n := range good {
				numbers[place] = n
				checkStep(t, "a number", c, lineWith(m.form, "", numbers...), m.does(c, numbers, setOf("/a", 5, -1)))
			}
			for _, word := range wrong {
				numbers[place] = 7777
				line := lineWith(m.form, "", numbers...)
				checkNoLine(t, c, strings.Replace(line, "7777", word, 1))
				checkNoLine(t, c, strings.Replace(line, "7777", "1 "+word, 1))
			}
			checkNoLine(t, c, strings.Replace(lineWith(m.form, "", numbers...), "7777", "", 1))
			checkNoLine(t, c, strings.Replace(lineWith(m.form, "", numbers...), "7777", "1 1", 1))
		}
	}
	for n := range int64(10200) {
		want := noScript(impl.ErrText)
		if n <= 9999 {
			want = saysOk(impl.AdoptC(c, n, n))
		}
		checkStep(t, "each number", c, fmt.Sprintf("adopt %d %d", n, n), want)
	}
}

// behindName is where the numbers of a line begin.
func behindName(words []string) int {
	if words[0] == "forge" {
		return 2
	}
	return 1
}

// Each command has its words alone, in their order, in small letters, and just as many.
func TestWordsOfLines(t *testing.T) {
	c := going()
	for _, m := range formsOf() {
		words := strings.Fields(lineWith(m.form, "", 1, 1, 1, 1))
		line := strings.Join(words, " ")
		if got := impl.StepScript(c, line); got.Code == impl.ErrText {
			t.Errorf("%q is no line", line)
		}
		for at, word := range words {
			put := func(list ...string) string {
				return strings.Join(slices.Replace(slices.Clone(words), at, at+1, list...), " ")
			}
			if len(words) > 1 {
				checkNoLine(t, c, put())
			}
			checkNoLine(t, c, put(word, word), put(word, "x"), put("x", word), put(word, "1"), put("1", word), put(word, "OP"), put("x"+word), put(word+"\t"), put(word+";"), put(word[1:]+"?"), put(word[:len(word)-1]+"!"))
			if word != "/a" {
				checkNoLine(t, c, put(word+"x"))
			}
			for letter := range word {
				if capital := word[:letter] + strings.ToUpper(word[letter:]); capital != word {
					checkNoLine(t, c, put(capital))
				}
			}
			if at < behindName(words) {
				checkNoLine(t, c, put(word[:len(word)-1]), put(word+"s"), put("open"), put("ok"), put("1"))
			}
		}
		if len(words) > 1 {
			checkNoLine(t, c, strings.Join(words, ""), strings.Join(words, "\t"), strings.Join(words, ","), words[0])
			slices.Reverse(words)
			checkNoLine(t, c, strings.Join(words, " "))
		}
		checkNoLine(t, c, line+" "+line, line+" show", "show "+line, line+" 0", "0 "+line, "# "+line, line+" open")
	}
	checkNoLine(t, c, "0", "1", "1 1", "1 1 1 open", "x", "wink", "open", "get /", "ok", "! 5", "log", "log 1", "replica 1 0 in 0", "code 0 7", "/ 0 0 0", "forge", "forge 1 4 1 1", "forge change 1 4 1 1", "forge new 1 4 1 1", "forge change 1 4", "forge new 1 4", "forge forge 1 4 1 1", "forge request 1 4 1 1", "forge show", "forge 1 propose 4 1 1", "propose forge 1 4 1 1", "forge propose prepare 1 4 1 1", "offer 1 1 1 open", "say 1", "state 1", "values 1", "lag 1", "waiting", "view", "done", "new", "ask", "tree", "drain 1", "show 1", "show show", "drain show")
}

// Of a line the words alone count, not how many blanks there are.
func TestBlanksOfLines(t *testing.T) {
	c := going()
	for _, m := range formsOf() {
		line := lineWith(m.form, "", 1, 1, 1, 1)
		want := m.does(c, []int64{1, 1, 1, 1}, setOf("/a", 5, -1))
		for _, blanks := range []string{" ", "  ", "     ", strings.Repeat(" ", 2000)} {
			wide := strings.ReplaceAll(line, " ", blanks)
			for _, other := range []string{wide, " " + wide, wide + " ", "   " + wide + "   ", blanks + wide + blanks} {
				checkStep(t, "with blanks", c, other, want)
			}
		}
	}
	for _, blanks := range []string{"", " ", "  ", strings.Repeat(" ", 5000)} {
		checkStep(t, "no words", c, blanks, saysText(c, impl.OK, ""))
	}
}

// A line feed is none of a line, wherever it stands; other bytes are bytes of a word.
func TestBytesOfLines(t *testing.T) {
	c := going()
	lines := []string{"", " ", "   "}
	for _, m := range formsOf() {
		lines = append(lines, lineWith(m.form, "", 1, 1, 1, 1))
	}
	for _, line := range lines {
		for at := range len(line) + 1 {
			checkNoLine(t, c, line[:at]+"\n"+line[at:], line[:at]+" \n "+line[at:])
		}
		checkNoLine(t, c, line+"\n\n", "\n"+line+"\n", line+"\r\n")
		for b := range 256 {
			other := string([]byte{byte(b)})
			if b != ' ' && (b < '0' || b > '9') {
				checkNoLine(t, c, line+other, other+line, line+" "+other, other+" "+line)
			}
		}
	}
}

func TestRequestLines(t *testing.T) {
	c := going()
	ops := []struct {
		text string
		op   impl.Op
	}{
		{"open", opOpen},
		{"close", opClose},
		{"create /a 0", create("/a", 0)},
		{"create /a/b 9999", create("/a/b", 9999)},
		{"create / 5", create("/", 5)},
		{"create /a 5 seq", withSeq(create("/a", 5))},
		{"create /a 5 own", withOwn(create("/a", 5))},
		{"create /a 5 seq own", withSeq(withOwn(create("/a", 5)))},
		{"delete /a any", deleteOf("/a", -1)},
		{"delete /a 0", deleteOf("/a", 0)},
		{"set /a 7 any", setOf("/a", 7, -1)},
		{"set / 0 999", setOf("/", 0, 999)},
		{"get /", getOf("/")},
		{"get /abcdefgh/abcdefgh/12345", getOf("/abcdefgh/abcdefgh/12345")},
		{"kids /a", kidsOf("/a")},
		{"check /a any", checkOf("/a", -1)},
		{"check /a 12", checkOf("/a", 12)},
	}
	for _, o := range ops {
		want := saysText(offering(c, asked(9, 99, 9000, o.op)), impl.OK, "ok")
		checkStep(t, "an operation", c, "request 9 99 9000 "+o.text, want)
		checkStep(t, "with blanks", c, "  request  9 99   9000    "+strings.ReplaceAll(o.text, " ", "   ")+"  ", want)
		checkNoLine(t, c, "request "+o.text, "request 9 "+o.text, "request 9 99 "+o.text, "request 9 99 9000 1 "+o.text, "request 9 99 9000 "+o.text+" ; "+o.text, "request 9 99 9000 "+o.text+" "+o.text, "request 9 99 9000 : "+o.text, "request "+o.text+" 9 99 9000", "request 9 "+o.text+" 99 9000", o.text+" request 9 99 9000", "request 9 99 9000 "+o.text+" x", "request 9 99 9000 "+o.text+" 0", "request 9 99 9000 "+strings.ToUpper(o.text[:1])+o.text[1:], "request 9 99 9000 "+strings.ReplaceAll(o.text+" ", " ", "\t"))
		if fewer, _, more := strings.Cut(o.text, " "); more {
			checkNoLine(t, c, "request 9 99 9000 "+fewer, "request 9 99 9000 "+strings.ReplaceAll(o.text, " ", ""), "request 9 99 9000 "+o.text[len(fewer)+1:])
		}
	}
	for _, wrong := range []string{"", "x", "0", "wink /a", "create", "create /a", "create /a 5 own seq", "create /a 5 own own", "create /a 05", "create /a 10000", "create /a -1", "create a 5", "create /A 5", "create /a/ 5", "create /a/b/c/d/e 5", "create /abcdefghi 5", "delete /a", "delete /a -1", "delete /a 1000", "delete /a 00", "set /a 7", "set /a any 7", "set /a 7 any any", "set /a 7 1000", "get", "get a", "get //", "get /a /b", "kids", "check /a", "check any", "request 1 1 1 open", "show"} {
		checkNoLine(t, c, "request 9 99 9000 "+wrong, "request 0 0 9999 "+wrong)
	}
}

// A row of a table of codes: what a line comes to in a cluster.
type lineCase struct {
	name string
	c    impl.Cluster
	line string
	want int64
}

func checkLines(t *testing.T, cases []lineCase) {
	t.Helper()
	for _, l := range cases {
		checkCluster(t, l.name, l.c, impl.OK)
		checkStep(t, l.name, l.c, l.line, noScript(l.want))
		// A script goes on behind that with the cluster as it was.
		checkRun(t, l.name, l.c, l.line, saysText(l.c, impl.OK, fmt.Sprintf("! %d\n", l.want)))
	}
}

func TestCodesOfLinesThatTurn(t *testing.T) {
	c, full, chatty := going(), clusterOf(1, 12, nil, 4), saying(going(), chatter(240-len(going().Ledger), 4)...)
	out := standing(c, waiting(2, 5))
	checkLines(t, []lineCase{
		{"no Client", c, "request 0 9 0 open", impl.ErrRange},
		{"a Client too many", c, "request 10 9 0 open", impl.ErrRange},
		{"no Number", c, "request 9 0 0 open", impl.ErrRange},
		{"a Number too great", c, "request 9 100 0 open", impl.ErrRange},
		{"a Time too late", c, "request 9 9 9001 open", impl.ErrRange},
		{"it is there", c, "request 1 3 0 open", impl.ErrTaken},
		{"there are enough", full, "request 9 9 0 open", impl.ErrMany},
		{"there are enough, and it is there", full, "request 1 3 0 open", impl.ErrTaken},
		{"there are enough, and it has a fault", full, "request 0 0 0 open", impl.ErrRange},
		{"nobody proposes", c, "propose 0 3 3", impl.ErrNone},
		{"a bad one proposes", c, "propose 4 3 3", impl.ErrNone},
		{"in slot 0", c, "propose 2 0 3", impl.ErrRange},
		{"in slot 31", c, "propose 2 31 3", impl.ErrRange},
		{"the value 13", c, "propose 2 3 13", impl.ErrRange},
		{"not the primary", c, "propose 1 3 3", impl.ErrState},
		{"not in its view", out, "propose 2 3 3", impl.ErrState},
		{"a slot again", c, "propose 2 2 3", impl.ErrTaken},
		{"not the next slot", c, "propose 2 4 3", impl.ErrNone},
		{"nothing", c, "propose 2 3 0", impl.ErrForm},
		{"a value again", c, "propose 2 3 2", impl.ErrForm},
		{"no request", c, "propose 2 3 4", impl.ErrNone},
		{"to a full ledger", chatty, "propose 2 3 3", impl.ErrMany},
		{"nobody prepares", c, "prepare 5 11", impl.ErrNone},
		{"no place", c, "prepare 1 12", impl.ErrForm},
		{"no proposal", c, "prepare 1 10", impl.ErrForm},
		{"a slot that is prepared", c, "prepare 1 4", impl.ErrTaken},
		{"of another view", out, "prepare 2 11", impl.ErrForm},
		{"what is no request", saying(c, said(1, 1, 2, 3, 9)), "prepare 1 12", impl.ErrNone},
		{"prepared into a full ledger", chatty, "prepare 1 11", impl.ErrMany},
		{"nobody commits", c, "commit 4 1 1", impl.ErrNone},
		{"commits in slot 0", c, "commit 1 0 1", impl.ErrRange},
		{"commits the value 13", c, "commit 1 1 13", impl.ErrRange},
		{"commits out of its view", out, "commit 2 1 1", impl.ErrState},
		{"what is not prepared", c, "commit 1 2 2", impl.ErrSign},
		{"commits again", c, "commit 1 1 1", impl.ErrTaken},
		{"commits into a full ledger", saying(c, append(prepares(1, 2, 2, 1, 2, 3), chatter(225, 4)...)...), "commit 1 2 2", impl.ErrMany},
		{"nobody changes", c, "change 4 2", impl.ErrNone},
		{"beyond the last view", c, "change 1 21", impl.ErrRange},
		{"to its own view", c, "change 1 1", impl.ErrState},
		{"back", c, "change 1 0", impl.ErrState},
		{"changes in a full ledger", chatty, "change 1 2", impl.ErrMany},
		{"nobody begins", c, "new 4", impl.ErrNone},
		{"begins again", c, "new 2", impl.ErrState},
		{"begins what it does not lead", out, "new 1", impl.ErrState},
		{"begins with too few", out, "new 2", impl.ErrSign},
		{"begins in a full ledger", saying(out, append(changesBy(5, 1, 2, 3), chatter(225, 4)...)...), "new 2", impl.ErrMany},
		{"nobody adopts", c, "adopt 4 3", impl.ErrNone},
		{"adopts again", c, "adopt 1 3", impl.ErrState},
		{"adopts what is no start", standing(c, waiting(1, 1)), "adopt 1 4", impl.ErrSign},
		{"adopts that of another view", out, "adopt 2 3", impl.ErrSign},
		{"nobody does", c, "done 4", impl.ErrNone},
		{"there is nothing to do", c, "done 1", impl.ErrState},
		{"does what is no request", clusterOf(1, 2, decidedAs(1, 3), 4), "done 1", impl.ErrNone},
	})
}

func TestCodesOfLiesAndDrains(t *testing.T) {
	c := going()
	var cases []lineCase
	for _, kind := range []string{"propose", "prepare", "commit"} {
		cases = append(cases,
			lineCase{"a View too late", c, "forge " + kind + " 21 4 1 1", impl.ErrRange},
			lineCase{"From nobody", c, "forge " + kind + " 0 0 1 1", impl.ErrRange},
			lineCase{"From the fifth of four", c, "forge " + kind + " 0 5 1 1", impl.ErrRange},
			lineCase{"a Slot that is none", c, "forge " + kind + " 0 4 0 1", impl.ErrRange},
			lineCase{"a Slot too many", c, "forge " + kind + " 0 4 31 1", impl.ErrRange},
			lineCase{"a Value too great", c, "forge " + kind + " 0 4 1 13", impl.ErrRange},
			lineCase{"From one that is not bad", c, "forge " + kind + " 0 3 1 1", impl.ErrSign},
			lineCase{"none of them is bad", clusterOf(1, 1, nil), "forge " + kind + " 0 4 1 1", impl.ErrSign},
			lineCase{"a full ledger", saying(c, chatter(240-len(c.Ledger), 4)...), "forge " + kind + " 0 4 1 1", impl.ErrMany})
	}
	checkLines(t, append(cases, []lineCase{
		{"no view behind", standing(c, waiting(1, 20)), "drain", impl.ErrRange},
		{"no changes that are right", clusterOf(1, 2, commits(0, 1, 2, 3), 4), "drain", impl.ErrSign},
		{"what is taken over is no request", clusterOf(1, 1, ledgerOf(prepares(0, 1, 3, 1, 2, 3), commits(0, 1, 3, 1)), 4), "drain", impl.ErrNone},
		{"a slot was proposed ahead", clusterOf(1, 1, msgs(said(1, 1, 2, 1, 1)), 4), "drain", impl.ErrTaken},
		{"a value was proposed ahead", clusterOf(1, 1, msgs(said(1, 1, 2, 9, 1)), 4), "drain", impl.ErrForm},
		{"a ledger that gets full", saying(c, chatter(220, 4)...), "drain", impl.ErrMany},
	}...))
}

// spread is a cluster in which two have done two requests of client 1, and the third one three; the fourth is bad.
func spread() impl.Cluster {
	c := doneBy(offering(clusterOf(1, 0, decidedAs(1, 1, 2, 3), 4), built()...), 2)
	return standing(c, withDone(c.Replicas[2], 3))
}

func TestCodesOfLinesThatAsk(t *testing.T) {
	c := spread()
	cut := cutOff(1, 4)
	checkLines(t, []lineCase{
		{"one alone has done it", c, "ask 1 3", impl.ErrSign},
		{"nobody has done it", c, "ask 1 4", impl.ErrSign},
		{"nobody asked for it", c, "ask 1 99", impl.ErrSign},
		{"no Client", c, "ask 0 1", impl.ErrSign},
		{"a Client too many", c, "ask 10 1", impl.ErrSign},
		{"no Number", c, "ask 1 0", impl.ErrSign},
		{"numbers beyond all bounds", c, "ask 9999 9999", impl.ErrSign},
		{"nobody can tell it", doneBy(cut, 3), "ask 1 1", impl.ErrSign},
		{"the tree of nobody", c, "tree 0", impl.ErrNone},
		{"the tree of a bad one", c, "tree 4", impl.ErrNone},
		{"the tree of the fifth", c, "tree 5", impl.ErrNone},
		{"the tree of the last of all", c, "tree 9999", impl.ErrNone},
		{"the tree behind what is no request", doneBy(cut, 3), "tree 1", impl.ErrNone},
	})
}

func TestLinesThatAsk(t *testing.T) {
	c := spread()
	checkCluster(t, "spread", c, impl.OK)
	says := func(line string, want string) {
		t.Helper()
		checkStep(t, "it asks", c, line, saysText(c, impl.OK, want))
	}
	says("ask 1 1", "code 0 0")
	says("ask 1 2", "code 0 0 /a")
	says("tree 1", "/ 0 0 0\n/a 5 0 0\n")
	says("tree 2", "/ 0 0 0\n/a 5 0 0\n")
	says("tree 3", "/ 0 0 0\n/a 7 1 0\n")
	says("show", "replica 1 0 in 2\nreplica 2 0 in 2\nreplica 3 0 in 3\nlog 1 2 3\n")
	fresh := clusterOf(2, 3, nil)
	for id := range int64(7) {
		checkStep(t, "nothing is done", fresh, fmt.Sprint("tree ", id+1), saysText(fresh, impl.OK, "/ 0 0 0\n"))
	}
	lost := doneBy(offering(clusterOf(1, 0, decidedAs(1, 1), 4), asked(3, 7, 0, getOf("/"))), 1)
	checkStep(t, "a Reply with a code", lost, "ask 3 7", saysText(lost, impl.OK, "code 9 0"))
}

func TestLinesThatTurn(t *testing.T) {
	c := going()
	says := func(name string, c impl.Cluster, line string, next impl.Cluster) {
		t.Helper()
		checkStep(t, name, c, line, saysText(next, impl.OK, "ok"))
	}
	says("offered", c, "request 2 1 8999 kids /", offering(c, asked(2, 1, 8999, kidsOf("/"))))
	says("proposed", c, "propose 2 3 3", saying(c, said(1, 1, 2, 3, 3)))
	says("prepared", c, "prepare 3 11", saying(c, said(2, 1, 3, 2, 2)))
	prepared := saying(c, prepares(1, 2, 2, 1, 2, 3)...)
	says("committed", prepared, "commit 1 2 2", saying(prepared, said(3, 1, 1, 2, 2)))
	says("changed", c, "change 3 20", standing(saying(c, changing(20, 3, cert(1, 1, 1))), waiting(3, 20)))
	left := allStanding(saying(c, changesBy(2, 1, 2, 3)...), withDone(waiting(1, 2), 1), waiting(2, 2), waiting(3, 2))
	begun := standing(saying(left, beginning(2, 3, 12, 13, 14)), inNew(3, 2, 15))
	says("begun", left, "new 3", begun)
	says("adopted", begun, "adopt 2 15", standing(begun, inNew(2, 2, 15)))
	says("done", c, "done 2", standing(c, withDone(inNew(2, 1, 3), 1)))
	says("forged", c, "forge propose 20 4 30 12", saying(c, said(1, 20, 4, 30, 12)))
	says("forged", c, "forge prepare 1 4 2 0", saying(c, said(2, 1, 4, 2, 0)))
	says("forged", c, "forge commit 0 4 1 2", saying(c, said(3, 0, 4, 1, 2)))
	lie := saying(c, said(2, 5, 4, 6, 7))
	says("forged again", lie, "forge prepare 5 4 6 7", lie)
	says("drained", c, "drain", impl.DrainC(c).Cluster)
	says("drained with nothing to do", clusterOf(1, 0, nil), "drain", impl.DrainC(clusterOf(1, 0, nil)).Cluster)
}
