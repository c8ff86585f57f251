package tests

import (
	"fmt"
	"math"
	"math/rand/v2"
	"slices"
	"strings"
	"testing"

	"loop.example/g00369/impl"
)

// checkRights asks a cluster without a fault. What each has done is the begin of one log, so they are alike whatever else is not so.
func checkRights(t *testing.T, name string, c impl.Cluster, safe bool, honest bool) {
	t.Helper()
	checkCluster(t, name, c, impl.OK)
	if got := impl.SafeRight(c); got != safe {
		t.Errorf("%s: SafeRight of %.400s: %t, want %t", name, fmt.Sprint(c), got, safe)
	}
	if got := impl.HonestRight(c); got != honest {
		t.Errorf("%s: HonestRight of %.400s: %t, want %t", name, fmt.Sprint(c), got, honest)
	}
	if !impl.AlikeRight(c) {
		t.Errorf("%s: AlikeRight of %.400s: false", name, fmt.Sprint(c))
	}
}

func TestRightsOfANewCluster(t *testing.T) {
	for _, f := range []int64{1, 2} {
		for set := range uint(1) << (3*f + 1) {
			bad := onesOf(set)
			if len(bad) > int(f) {
				continue
			}
			c := impl.NewCluster(f, bad).Cluster
			checkRights(t, "a new cluster", c, true, true)
			for client := range int64(11) {
				for _, number := range []int64{-1, 0, 1, 2, 99, 100} {
					if !impl.TrueRight(c, client, number, nil) || !impl.TrueRight(c, client, number, slices.Repeat(sayings(withWhere("/a"), bad...), 20)) {
						t.Errorf("of %d and %d in %+v: what is believed is not so", client, number, c)
					}
				}
			}
		}
	}
}

// Whether a slot has two values hangs on what enough have committed alone: not on who is bad, nor on who has done what.
func TestSafeRight(t *testing.T) {
	for _, f := range []int64{1, 2} {
		few, enough, others := firstOnes(2*f), firstOnes(2*f+1), lastOnes(f, 2*f+1)
		last := 3*f + 1
		one, two := commits(0, 1, 1, enough...), commits(1, 1, 2, others...)
		cases := []struct {
			name   string
			ledger []impl.Msg
			safe   bool
			honest bool
		}{
			{"nothing is decided", nil, true, true},
			{"one value", one, true, true},
			{"a slot that is empty", commits(0, 1, 0, enough...), true, true},
			{"one value in two views", ledgerOf(one, commits(1, 1, 1, others...)), true, true},
			{"one value in three views, by all", ledgerOf(commits(0, 1, 1, firstOnes(last)...), commits(7, 1, 1, firstOnes(last)...), commits(20, 1, 1, firstOnes(last)...)), true, true},
			{"two values in one view", ledgerOf(one, commits(0, 1, 2, others...)), false, false},
			{"two values in one view, by all", ledgerOf(commits(0, 1, 1, firstOnes(last)...), commits(0, 1, 2, firstOnes(last)...)), false, false},
			{"two values in two views", ledgerOf(one, two), false, true},
			{"two values in two views, the later one first", ledgerOf(two, one), false, true},
			{"two values in the first and the last view", ledgerOf(one, commits(20, 1, 2, others...)), false, true},
			{"two values in two views, by the same", ledgerOf(one, commits(1, 1, 2, enough...)), false, true},
			{"two values, one by one", ledgerOf(one[:1], two[:1], one[1:], two[1:]), false, true},
			{"the least and the greatest value", ledgerOf(commits(0, 1, 0, enough...), commits(1, 1, 12, others...)), false, true},
			{"the greatest and the least value", ledgerOf(commits(0, 1, 12, enough...), commits(1, 1, 0, others...)), false, true},
			{"three values in three views", ledgerOf(one, two, commits(2, 1, 3, enough...)), false, true},
			{"one value twice, and another one", ledgerOf(one, commits(1, 1, 1, enough...), commits(2, 1, 3, enough...)), false, true},
			{"two values in two slots", ledgerOf(one, commits(0, 2, 2, enough...)), true, true},
			{"two values in two slots of two views", ledgerOf(one, commits(1, 2, 2, others...)), true, true},
			{"one commit too few of the first one", ledgerOf(commits(0, 1, 1, few...), two), true, true},
			{"one commit too few of the other one", ledgerOf(one, two[1:]), true, true},
			{"one commit too few of both", ledgerOf(one[1:], two[1:]), true, true},
			{"one commit too few of the other one in each view", ledgerOf(one, two[1:], commits(2, 1, 2, others[:2*f]...)), true, true},
			{"the last one of the other one in another view", ledgerOf(one, two[1:], commits(2, 1, 2, others[0])), true, true},
			{"the last one of the other one in another slot", ledgerOf(one, two[1:], commits(1, 2, 2, others[0])), true, true},
			{"one commits the other one in all views", ledgerOf(one, two[1:], commits(2, 1, 2, others[1]), commits(3, 1, 2, others[1]), commits(4, 1, 2, others[1])), true, true},
			{"one commits all values", ledgerOf(one, commits(0, 1, 2, 1), commits(0, 1, 3, 1), commits(0, 1, 4, 1)), true, false},
			{"as many values as can be, and none is decided", ledgerOf(commits(0, 1, 1, 1), commits(0, 1, 2, 2), commits(0, 1, 3, 3), commits(0, 1, 4, 4)), true, true},
			{"enough prepare two values", ledgerOf(prepares(0, 1, 1, enough...), prepares(1, 1, 2, others...)), true, true},
			{"enough commit one and prepare the other one", ledgerOf(one, prepares(1, 1, 2, others...)), true, true},
			{"enough propose two values", ledgerOf(votesOf(1, 0, 1, 1, enough...), votesOf(1, 1, 1, 2, others...)), true, true},
			{"enough commit and one more prepares", ledgerOf(one, two[1:], prepares(1, 1, 2, others[0])), true, true},
			{"certificates of two values", ledgerOf(prepares(0, 1, 1, enough...), prepares(1, 1, 2, others...), msgs(changing(2, 1, cert(1, 0, 1)), changing(2, 2, cert(1, 1, 2)))), true, true},
		}
		for _, s := range cases {
			checkRights(t, s.name, clusterOf(f, 3, s.ledger), s.safe, s.honest)
			checkRights(t, s.name+", in another order", clusterOf(f, 3, slices.Concat(s.ledger[len(s.ledger)/2:], s.ledger[:len(s.ledger)/2])), s.safe, s.honest)
			checkRights(t, s.name+", and no requests", clusterOf(f, 0, s.ledger), s.safe, s.honest)
			for id := int64(1); id <= last; id++ {
				c := clusterOf(f, 3, s.ledger, id)
				checkRights(t, fmt.Sprintf("%s, %d is bad", s.name, id), c, s.safe, modelHonest(c))
			}
		}
	}
}

// Each slot is asked, also those behind one that is not decided.
func TestSafeRightAsksEachSlot(t *testing.T) {
	for slot := int64(1); slot <= 30; slot++ {
		two := ledgerOf(commits(0, slot, 1, 1, 2, 3), commits(1, slot, 2, 2, 3, 4))
		checkRights(t, fmt.Sprintf("two in slot %d", slot), clusterOf(1, 3, two), false, true)
		checkRights(t, fmt.Sprintf("two in slot %d, too few", slot), clusterOf(1, 3, two[1:]), true, true)
		beside := slot%30 + 1
		checkRights(t, fmt.Sprintf("the other one in the slot beside %d", slot), clusterOf(1, 3, ledgerOf(two[:3], commits(1, beside, 2, 2, 3, 4))), true, true)
		ahead := decidedAs(1, valuesTo(slot-1)...)
		checkRights(t, fmt.Sprintf("two in slot %d, and all ahead of it is decided", slot), clusterOf(1, 3, ledgerOf(ahead, two)), false, true)
	}
	for _, f := range []int64{1, 2} {
		for slot := int64(1); slot <= 30; slot += 29 {
			all := firstOnes(2*f + 1)
			room := 240 - 2*len(all)
			ledger := ledgerOf(chatter(room, 3*f+1), commits(0, slot, 1, all...), commits(1, slot, 2, all...))
			checkRights(t, "two at the end of a full ledger", clusterOf(f, 3, ledger, 3*f+1), false, true)
			ledger = ledgerOf(commits(0, slot, 1, all...), chatter(room, 3*f+1), commits(1, slot, 2, all...))
			checkRights(t, "two at both ends of a full ledger", clusterOf(f, 3, ledger, 3*f+1), false, true)
		}
	}
}

// The commits of those who are bad count like all others; what they say twice nobody else has to answer for.
func TestSafeRightCountsWhoIsBad(t *testing.T) {
	both := ledgerOf(commits(0, 1, 1, 1, 2, 4), commits(0, 1, 2, 3, 4))
	checkRights(t, "a bad one commits both, one is decided", clusterOf(1, 2, both, 4), true, true)
	checkRights(t, "the same, and it is not bad", clusterOf(1, 2, both), true, false)
	checkRights(t, "a bad one and one that is not commit both", clusterOf(1, 2, ledgerOf(both, commits(0, 1, 2, 2)), 4), false, false)
	checkRights(t, "a bad one commits the other one in a later view", clusterOf(1, 2, ledgerOf(both, commits(1, 1, 2, 2, 3, 4)), 4), false, true)
	checkRights(t, "without it there are too few", clusterOf(1, 2, ledgerOf(both, commits(1, 1, 2, 2, 3)), 4), true, true)
	two := ledgerOf(commits(0, 1, 1, 1, 2, 3, 6, 7), commits(0, 1, 2, 4, 5, 6, 7))
	checkRights(t, "two bad ones commit both, one is decided", clusterOf(2, 2, two, 6, 7), true, true)
	checkRights(t, "one of the two is not bad", clusterOf(2, 2, two, 7), true, false)
	checkRights(t, "two bad ones and one that is not commit both", clusterOf(2, 2, ledgerOf(two, commits(0, 1, 2, 3)), 6, 7), false, false)
	checkRights(t, "two bad ones commit the other one in a later view", clusterOf(2, 2, ledgerOf(two, commits(1, 1, 2, 1, 2, 3, 6, 7)), 6, 7), false, true)
}

// checkTwice asks whether two things that one said are honest of it; those of who is bad always are.
func checkTwice(t *testing.T, name string, c impl.Cluster, from int64, honest bool) {
	t.Helper()
	checkRights(t, name, c, modelSafe(c), honest)
	for id := int64(1); id <= 3*c.F+1; id++ {
		other := clusterOf(c.F, len(c.Requests), c.Ledger, id)
		checkRights(t, fmt.Sprintf("%s, %d is bad", name, id), other, modelSafe(c), honest || id == from)
	}
}

func TestHonestRightAsksWhatIsSaidTwice(t *testing.T) {
	for _, f := range []int64{1, 2} {
		for kind := int64(1); kind <= 3; kind++ {
			for from := int64(1); from <= 3*f+1; from++ {
				one := said(kind, 1, from, 2, 3)
				check := func(name string, honest bool, list ...impl.Msg) {
					t.Helper()
					checkTwice(t, fmt.Sprintf("kind %d by %d, %s", kind, from, name), clusterOf(f, 3, list), from, honest)
				}
				check("once", true, one)
				for _, value := range []int64{0, 1, 2, 4, 12} {
					check("two values", false, one, said(kind, 1, from, 2, value))
					check("two values, the other one first", false, said(kind, 1, from, 2, value), one)
				}
				check("three values", false, one, said(kind, 1, from, 2, 4), said(kind, 1, from, 2, 5))
				other := from%(3*f+1) + 1
				for _, value := range []int64{3, 4} {
					check("in two views", true, one, said(kind, 2, from, 2, value))
					check("in the view ahead", true, one, said(kind, 0, from, 2, value))
					check("of two slots", true, one, said(kind, 1, from, 3, value))
					check("of the slot ahead", true, one, said(kind, 1, from, 1, value))
					check("by two", true, one, said(kind, 1, other, 2, value))
					check("and the next kind", true, one, said(kind%3+1, 1, from, 2, value))
					check("and the kind behind the next", true, one, said((kind+1)%3+1, 1, from, 2, value))
					check("view and slot change places", true, one, said(kind, 2, from, 1, value))
				}
				check("all kinds", true, said(1, 1, from, 2, 3), said(2, 1, from, 2, 4), said(3, 1, from, 2, 5))
				check("two of another one between", false, one, said(kind, 1, other, 2, 3), said(kind, 1, other, 3, 3), said(kind, 1, from, 2, 4))
				check("those of other kinds, views and slots between", false, one, said(kind%3+1, 1, from, 2, 4), said(kind, 2, from, 2, 4), said(kind, 1, from, 3, 4), changing(2, from), beginning(2, from, 4), said(kind, 1, from, 2, 4))
				check("changes and starts alone", true, changing(2, from), beginning(2, from, 0), beginning(2, from), changing(3, from))
			}
		}
	}
}

// Wherever the two stand in the ledger, and whatever view and slot they are of.
func TestHonestRightAsksEachPlace(t *testing.T) {
	for kind := int64(1); kind <= 3; kind++ {
		for slot := int64(1); slot <= 30; slot++ {
			view := slot % 21
			c := clusterOf(1, 3, msgs(said(kind, view, 2, slot, 1), said(kind, view, 2, slot, 2)))
			checkRights(t, fmt.Sprintf("slot %d of view %d", slot, view), c, true, false)
			checkRights(t, fmt.Sprintf("slot %d of view %d, by a bad one", slot, view), clusterOf(1, 3, c.Ledger, 2), true, true)
		}
		first, second := said(kind, 3, 2, 5, 1), said(kind, 3, 2, 5, 2)
		noise := chatter(238, 4)
		for _, many := range []int{0, 1, 2, 119, 237, 238} {
			ahead, behind := noise[:many], noise[many:]
			checkRights(t, "side by side in a full ledger", clusterOf(1, 3, ledgerOf(ahead, msgs(first, second), behind), 4), true, false)
			checkRights(t, "the first of the ledger and another one", clusterOf(1, 3, ledgerOf(msgs(first), ahead, msgs(second), behind), 4), true, false)
			checkRights(t, "another one and the last of the ledger", clusterOf(1, 3, ledgerOf(ahead, msgs(first), behind, msgs(second)), 4), true, false)
			checkRights(t, "in other slots", clusterOf(1, 3, ledgerOf(ahead, msgs(first), behind, msgs(said(kind, 3, 2, 6, 2))), 4), true, true)
		}
	}
	// Two that are bad may say what they like; a third one may not.
	twice := func(from int64) []impl.Msg { return msgs(said(2, 0, from, 1, 1), said(2, 0, from, 1, 2)) }
	checkRights(t, "two bad ones", clusterOf(2, 3, ledgerOf(twice(3), twice(6)), 3, 6), true, true)
	checkRights(t, "two bad ones and another one", clusterOf(2, 3, ledgerOf(twice(3), twice(6), twice(7)), 3, 6), true, false)
	checkRights(t, "another one and two bad ones", clusterOf(2, 3, ledgerOf(twice(1), twice(3), twice(6)), 3, 6), true, false)
}

func TestHonestRightAsksEachChange(t *testing.T) {
	for _, f := range []int64{1, 2} {
		all, last := firstOnes(2*f+1), 3*f+1
		there := ledgerOf(prepares(0, 1, 3, all...), prepares(0, 3, 1, all...), prepares(1, 1, 3, all...), prepares(0, 5, 2, all[1:]...))
		cases := []struct {
			name   string
			view   int64
			certs  []impl.Cert
			honest bool
		}{
			{"no certificates", 2, nil, true},
			{"no certificates, to the last view", 20, nil, true},
			{"to the first view", 0, nil, false},
			{"prepared", 2, certs(cert(1, 0, 3)), true},
			{"prepared again in a later view", 2, certs(cert(1, 1, 3)), true},
			{"two that are prepared", 2, certs(cert(1, 0, 3), cert(3, 0, 1)), true},
			{"another value", 2, certs(cert(1, 0, 2)), false},
			{"nothing", 2, certs(cert(1, 0, 0)), false},
			{"another view", 4, certs(cert(1, 2, 3)), false},
			{"another slot", 2, certs(cert(2, 0, 3)), false},
			{"prepared by one too few", 2, certs(cert(5, 0, 2)), false},
			{"the first of two is not prepared", 2, certs(cert(1, 0, 1), cert(3, 0, 1)), false},
			{"the last of two is not prepared", 2, certs(cert(1, 0, 3), cert(3, 0, 3)), false},
			{"the second of three is not prepared", 2, certs(cert(1, 1, 3), cert(2, 0, 3), cert(3, 0, 1)), false},
		}
		for _, s := range cases {
			for from := int64(1); from <= last; from++ {
				m := changing(s.view, from, s.certs...)
				checkTwice(t, fmt.Sprintf("%s, by %d", s.name, from), clusterOf(f, 3, ledgerOf(there, msgs(m))), from, s.honest)
			}
			// What is prepared behind the change counts as well: whether it is right is asked of all that was ever said.
			m := changing(s.view, 2, s.certs...)
			checkTwice(t, s.name+", prepared behind it", clusterOf(f, 3, ledgerOf(msgs(m), there)), 2, s.honest)
			room := 240 - len(there) - 1
			checkRights(t, s.name+", at the end of a full ledger", clusterOf(f, 3, ledgerOf(there, chatter(room, last), msgs(m)), last), true, s.honest)
			checkRights(t, s.name+", behind one that is right", clusterOf(f, 3, ledgerOf(there, msgs(changing(3, 2), changing(3, 1), m))), true, s.honest)
			checkRights(t, s.name+", ahead of one that is right", clusterOf(f, 3, ledgerOf(there, msgs(m, changing(3, 2), changing(3, 1)))), true, s.honest)
		}
		// A bad one may help to prepare what is told, and tell of what it likes.
		helped := ledgerOf(there, prepares(0, 5, 2, last), msgs(changing(2, 1, cert(5, 0, 2))))
		checkRights(t, "prepared with the help of a bad one", clusterOf(f, 3, helped, last), true, true)
		checkRights(t, "a wrong one of each", clusterOf(f, 3, msgs(changing(0, last), changing(2, 1, cert(5, 0, 2))), last), true, false)
		checkRights(t, "a wrong one of who is bad", clusterOf(f, 3, msgs(changing(0, last), changing(2, last, cert(5, 0, 2))), last), true, true)
		// How often one changes to a view, what begins one, and who leads it, is not asked.
		checkRights(t, "two changes to one view", clusterOf(f, 3, ledgerOf(there, msgs(changing(2, 1), changing(2, 1, cert(1, 0, 3))))), true, true)
		checkRights(t, "a change to a view behind that to a later one", clusterOf(f, 3, msgs(changing(5, 1), changing(2, 1))), true, true)
		checkRights(t, "two starts of one view, of which none is right", clusterOf(f, 3, msgs(changing(2, 1), beginning(2, 3, 0), beginning(2, 3))), true, true)
		checkRights(t, "one that does not lead begins and proposes", clusterOf(f, 3, msgs(beginning(2, 1), said(1, 2, 1, 1, 0), said(3, 9, 1, 4, 12))), true, true)
	}
}

// Whatever slots each has done, and in whatever view it is, they are alike; who has done more than is decided has a fault.
func TestAlikeRight(t *testing.T) {
	logs := []struct {
		name   string
		ledger []impl.Msg
		many   int64
	}{
		{"nothing is decided", nil, 0},
		{"one slot", decidedAs(1, 2), 1},
		{"an empty slot alone", decidedAs(1, 0), 1},
		{"empty slots between and behind", decidedAs(1, 1, 0, 0, 2, 0), 5},
		{"empty slots ahead", decidedAs(1, 0, 0, 3), 3},
		{"one value twice", decidedAs(1, 1, 1, 1), 3},
		{"up to a slot that is open", decidedAs(1, 1, 2, open, 3), 2},
		{"values beyond all requests", decidedAs(1, 1, 12, 9), 3},
		{"a slot with two values", ledgerOf(decidedAs(1, 2, 1), commits(1, 1, 3, 1, 2, 3)), 2},
	}
	for _, l := range logs {
		for first := range l.many + 2 {
			for middle := range l.many + 2 {
				for last := range l.many + 2 {
					c := allStanding(clusterOf(1, 3, l.ledger, 2), withDone(inFirst(1), first), withDone(waiting(3, 4), middle), withDone(inFirst(4), last))
					name := fmt.Sprintf("%s, %d, %d and %d", l.name, first, middle, last)
					if most := max(first, middle, last); most > l.many {
						checkCluster(t, name, c, impl.ErrState)
						continue
					}
					checkRights(t, name, c, modelSafe(c), true)
				}
			}
		}
	}
	for _, f := range []int64{1, 2} {
		c := clusterOf(f, 12, decidedAs(f, longLog(30)...))
		for at := range c.Replicas {
			for _, done := range []int64{0, 1, 29, 30} {
				checkRights(t, "all slots", standing(doneBy(c, 30), withDone(inFirst(int64(at)+1), done)), true, true)
				checkRights(t, "all slots, of one alone", standing(c, withDone(inFirst(int64(at)+1), done)), true, true)
			}
			checkCluster(t, "more than all slots", standing(doneBy(c, 30), withDone(inFirst(int64(at)+1), 31)), impl.ErrRange)
		}
	}
}

func checkTrue(t *testing.T, name string, c voteCall, want bool) {
	t.Helper()
	checkCluster(t, name, c.c, impl.OK)
	if got := programTrue(c); got != want {
		t.Errorf("%s: TrueRight of %d, %d, %.200s and %.400s: %t, want %t", name, c.client, c.number, fmt.Sprint(c.lies), fmt.Sprint(c.c), got, want)
	}
}

// asking is a call of client 1.
func asking(c impl.Cluster, number int64, lies ...impl.Vote) voteCall {
	return voteCall{c: c, client: 1, number: number, lies: lies}
}

// repliesBeside are a reply and those that are another one in one thing alone.
func repliesBeside(r impl.Reply) []impl.Reply {
	return []impl.Reply{r, {Code: r.Code + 1, Value: r.Value, Path: r.Path}, {Code: r.Code, Value: r.Value + 1, Path: r.Path}, {Code: r.Code, Value: r.Value, Path: r.Path + "/b"}, {Code: r.Code + 2, Value: r.Value + 2, Path: "no path"}}
}

// Whoever is bad and whatever it says, what is believed is what was done; what nobody believes is held against nobody.
func TestTrueRightOfWhatIsDone(t *testing.T) {
	made := withWhere("/a")
	replies := map[int64]impl.Reply{1: {}, 2: made, 3: withValue(1), 4: {}}
	for _, f := range []int64{1, 2} {
		for _, bad := range [][]int64{nil, {1}, {3*f + 1}, firstOnes(f)} {
			c := tellers(f, bad...)
			for _, far := range []int64{math.MinInt64, -1, 0, 10, 100, math.MaxInt64} {
				checkTrue(t, "of nobody", voteCall{c: doneBy(c, 4), client: far, number: 2, lies: sayings(made, bad...)}, true)
				checkTrue(t, "of no number", asking(doneBy(c, 4), far, sayings(made, bad...)...), true)
			}
			for number, reply := range replies {
				for done := range int64(5) {
					for _, some := range []impl.Cluster{doneBy(c, done), standing(c, withDone(c.Replicas[0], done)), standing(doneBy(c, done), withDone(c.Replicas[0], 0)), standing(doneBy(c, done), withDone(c.Replicas[len(c.Replicas)-1], 4)), standing(doneBy(c, done), withDone(c.Replicas[1], 4-done))} {
						checkTrue(t, "no lies", asking(some, number), true)
						for at, lie := range repliesBeside(reply) {
							checkTrue(t, "lies", asking(some, number, slices.Repeat(sayings(lie, bad...), 1+at*2)...), true)
						}
					}
				}
			}
		}
	}
}

// cutOff is a cluster in which client 1 is told what it asked for with number 2 by those that have done two slots; the third one holds what is no request, so in the state of who has done it nothing can be looked up.
func cutOff(f int64, bad ...int64) impl.Cluster {
	return doneBy(offering(clusterOf(f, 0, decidedAs(f, 1, 2, 12, 1), bad...), built()...), 2)
}

func TestTrueRightOfWhoHasDoneMost(t *testing.T) {
	for _, f := range []int64{1, 2} {
		for _, bad := range [][]int64{nil, {1}, {3*f + 1}, firstOnes(f)} {
			c := cutOff(f, bad...)
			for number := int64(1); number <= 4; number++ {
				checkTrue(t, "all have done two", asking(c, number), true)
				checkTrue(t, "all have done three", asking(doneBy(c, 3), number), true)
				checkTrue(t, "all have done three of what is a request", asking(offering(doneBy(c, 3), oneByOne(12)[4:]...), number), true)
			}
			for _, one := range c.Replicas {
				for _, done := range []int64{3, 4} {
					furthest := standing(c, withDone(one, done))
					name := fmt.Sprintf("%d has done %d, %v are bad", one.Id, done, bad)
					checkTrue(t, name, asking(furthest, 2), false)
					checkTrue(t, name+", of a Reply that is all zero", asking(furthest, 1), false)
					checkTrue(t, name+", of what is not done", asking(furthest, 3), true)
					checkTrue(t, name+", of nobody", asking(furthest, 100), true)
					checkTrue(t, name+", with lies", asking(furthest, 2, sayings(withWhere("/b"), bad...)...), false)
					checkTrue(t, name+", with lies of what is not done", asking(furthest, 3, sayings(withWhere("/b"), bad...)...), true)
					checkTrue(t, name+", in another view", asking(standing(c, withDone(waiting(one.Id, 9), done)), 2), false)
					checkTrue(t, name+", with enough requests", asking(offering(furthest, oneByOne(12)[4:]...), 2), true)
					// One that has done less says nothing else, be it ahead or behind.
					for _, other := range c.Replicas {
						if other.Id != one.Id {
							checkTrue(t, name+", as another one", asking(standing(furthest, withDone(other, done)), 1), len(c.Replicas) <= int(f)+2)
							checkTrue(t, name+", another one has done one more", asking(standing(furthest, withDone(other, 4)), 1), len(c.Replicas) <= int(f)+2)
							checkTrue(t, name+", another one has done less", asking(standing(furthest, withDone(other, 1)), 1), false)
						}
					}
					// Where a client believes nothing, whatever the code is, there is nothing to look up.
					for _, lies := range [][]impl.Vote{sayings(secondReply, one.Id), sayings(secondReply, 0), sayings(secondReply, 3*f+2), sayings(codeAt(11, 0), bad...), make([]impl.Vote, 41), slices.Repeat(sayings(secondReply, one.Id), 41)} {
						checkTrue(t, name+", with what is no lie", asking(furthest, 2, lies...), len(lies) > 0)
					}
				}
			}
			// Of the lies and what is gathered there may be forty.
			if len(bad) > 0 {
				one := c.Replicas[0]
				furthest := standing(c, withDone(one, 3))
				many := 40 - (len(c.Replicas) - 1)
				lies := slices.Repeat(sayings(withWhere("/b"), bad...), 40)
				checkTrue(t, "just so many votes", asking(furthest, 2, lies[:many]...), false)
				checkTrue(t, "one vote too many", asking(furthest, 2, lies[:many+1]...), true)
			}
		}
	}
	// A bad one and one of those that have done less are enough for a client; without the bad one they are not.
	c := allStanding(cutOff(1, 4), withDone(inFirst(1), 3), withDone(inFirst(2), 0))
	checkTrue(t, "one alone says so", asking(c, 2), true)
	checkTrue(t, "a bad one says so as well", asking(c, 2, sayings(secondReply, 4)...), false)
	checkTrue(t, "a bad one says so as well, of what is done by all", asking(standing(c, withDone(inFirst(1), 2)), 2, sayings(secondReply, 4)...), true)
	for _, lie := range repliesBeside(secondReply)[1:] {
		checkTrue(t, "a bad one says something else", asking(c, 2, sayings(lie, 4)...), true)
	}
}

// secondReply is what client 1 is told of its second request.
var secondReply = impl.Reply{Path: "/a"}

// A slot of which enough have committed two values is done with the lower one by all; a client is told of that alone.
func TestTrueRightOfASlotWithTwoValues(t *testing.T) {
	c := doneBy(offering(clusterOf(1, 0, ledgerOf(decidedAs(1, 1, 3), commits(1, 2, 2, 2, 3, 4))), built()...), 2)
	checkRights(t, "two values", c, false, true)
	checkTrue(t, "the lower one", asking(c, 2), true)
	checkTrue(t, "the other one", asking(c, 3), true)
	if got := impl.AskC(c, 1, 2, nil); got != believed(secondReply) {
		t.Errorf("%+v is believed of the lower one", got)
	}
}

// drawnTruth draws a call around one of chapter 14, of a cluster in which there are often too few requests for who has done most.
func drawnTruth(r *rand.Rand) voteCall {
	c := drawnFineVote(r)
	if r.IntN(5) == 0 {
		c = drawnVoteCall(r)
	}
	log := modelLog(c.c.F, c.c.Ledger).List
	if r.IntN(2) > 0 || len(log) == 0 || len(c.c.Requests) == 0 || modelClusterFault(c.c) != impl.OK {
		return c
	}
	// All have done what is ahead of a slot, and some of what is behind it.
	end := int64(r.IntN(len(log)))
	c.c.Requests = c.c.Requests[:min(max(int(log[end]-1), 1), len(c.c.Requests))]
	c.c.Replicas = slices.Clone(c.c.Replicas)
	for at := range c.c.Replicas {
		c.c.Replicas[at].Done = end + int64(r.IntN(4)/3)*(r.Int64N(int64(len(log))-end)+1)
	}
	same := drawn(r, c.c.Requests)
	c.client, c.number = same.Client, same.Number
	return c
}

func TestTrueRightIsWhatTheModelTells(t *testing.T) {
	t.Parallel()
	r := rand.New(rand.NewPCG(101, 101))
	codes := map[int64]int{}
	faults, untrue := 0, 0
	for range 1000 {
		c := drawnTruth(r)
		got, want := programTrue(c), modelTrue(c)
		if got != want {
			t.Fatalf("of %+v: %t, want %t", c, got, want)
		}
		if impl.ClusterFault(c.c) != impl.OK {
			faults++
			continue
		}
		if !got {
			untrue++
			continue
		}
		codes[impl.AskC(c.c, c.client, c.number, c.lies).Code]++
	}
	if faults < 10 || untrue < 30 || codes[impl.OK] < 150 || codes[impl.ErrSign] < 150 || codes[impl.ErrMany] < 10 || codes[impl.ErrRange] < 5 {
		t.Errorf("%d had a fault, %d were not true, the codes of the others: %v", faults, untrue, codes)
	}
}

// drawnRight draws a cluster without a fault, most often one in which something is said that should not be.
func drawnRight(r *rand.Rand) impl.Cluster {
	c := drawnFineAudit(r)
	if r.IntN(3) == 0 {
		c.Ledger, c.Bad, c.Replicas = drawnPolled(r, c.F), nil, nil
		c = clusterOf(c.F, len(c.Requests), c.Ledger, drawnBad(r, c.F, 0)...)
	}
	for range r.IntN(3) {
		m := said(1+r.Int64N(3), r.Int64N(3), 1+r.Int64N(3*c.F+1), 1+r.Int64N(3), r.Int64N(4))
		if at := drawnPlace(r, c.Ledger, 1+r.Int64N(3)); r.IntN(2) > 0 && at >= 0 && at < int64(len(c.Ledger)) && c.Ledger[at].Kind <= 3 {
			m = c.Ledger[at]
			m.Value = (m.Value + 1) % 13
		}
		more := [][]impl.Msg{msgs(m), msgs(changing(1+r.Int64N(3), m.From, cert(m.Slot, 0, m.Value))), commits(3, m.Slot, m.Value, firstOnes(2*c.F+1)...), commits(4, m.Slot, m.Value, lastOnes(c.F, 2*c.F+1)...)}
		if ledger := slices.Concat(c.Ledger, drawn(r, more)); modelLedgerFault(c.F, ledger) == impl.OK {
			c.Ledger = ledger
		}
	}
	if modelClusterFault(c) != impl.OK {
		return drawnRight(r)
	}
	return c
}

func TestRightsAreWhatTheModelTells(t *testing.T) {
	t.Parallel()
	r := rand.New(rand.NewPCG(102, 102))
	told := map[[2]bool]int{}
	for range 800 {
		c := drawnRight(r)
		safe, honest := impl.SafeRight(c), impl.HonestRight(c)
		if safe != modelSafe(c) || honest != modelHonest(c) || impl.AlikeRight(c) != modelAlike(c, modelBook(c)) {
			t.Fatalf("of %+v: %t and %t, want %t and %t", c, safe, honest, modelSafe(c), modelHonest(c))
		}
		told[[2]bool{safe, honest}]++
	}
	for _, kind := range [][2]bool{{true, true}, {true, false}, {false, true}, {false, false}} {
		if told[kind] < 30 {
			t.Errorf("safe and honest: %v", told)
		}
	}
}

// Promise 1: every argument has an answer, however long a list is or how odd its numbers are; no panic leaves the package.
func TestEveryTruthIsAnswered(t *testing.T) {
	far := []int64{math.MinInt64, -1, 0, 1, 2, 4, 9, 10, 40, 99, 100, math.MaxInt64}
	for i, n := range far {
		for j, other := range far {
			odd := impl.Reply{Code: n, Value: other, Path: strings.Repeat("\xff", (i+j)%27)}
			lists := [][]impl.Vote{nil, {voteOf(other, odd)}, sayings(secondReply, 1, n, other), slices.Repeat(sayings(odd, n), 1<<9), sayings(secondReply, 4, 4, 4)}
			for k, lies := range lists {
				c := voteCall{c: standing(cutOff(1+int64(j)%2, 4), withDone(inFirst(2), int64(i)%5)), client: n, number: other, lies: lies}
				if k%3 > 0 {
					c.client, c.number = 1, 1+int64(k)
				}
				if i%4 == 1 {
					c.c.F, c.c.Bad = n, []int64{other}
				}
				if got, want := answersOf(t, programTrue, c), modelTrue(c); got != want {
					t.Fatalf("of %.300s: %t, want %t", fmt.Sprint(c), got, want)
				}
			}
		}
	}
}

// Promise 1: what is told of a truth hangs on the arguments alone, and changes neither the cluster nor the lies, nor what lies behind them.
func TestTruthsLeaveAllAsItIs(t *testing.T) {
	r := rand.New(rand.NewPCG(103, 103))
	same := func(a bool, b bool) bool { return a == b }
	checkAgain(t, drawnMany(r, 60, drawnTruth), programTrue, same)
	for range 250 {
		c := drawnTruth(r)
		c.c, c.lies = ownCluster(c.c), ownVotes(c.lies)
		old, lies := ownCluster(wholeCluster(c.c)), slices.Clone(c.lies[:cap(c.lies)])
		programTrue(c)
		if !sameClusters(wholeCluster(c.c), old) || !slices.Equal(c.lies[:cap(c.lies)], lies) {
			t.Fatalf("changed: %+v", c)
		}
	}
}
