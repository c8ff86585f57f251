package tests

import (
	"fmt"
	"math"
	"math/rand/v2"
	"slices"
	"strings"
	"testing"

	"loop.example/g00369/impl"
)

// checkSayings asks for the fault of votes; where they have one the two others that are told votes must tell that alone.
func checkSayings(t *testing.T, name string, f int64, votes []impl.Vote, want int64) {
	t.Helper()
	if got := impl.VotesFault(f, votes); got != want {
		t.Errorf("%s: VotesFault of %d and %.300s: %d, want %d", name, f, fmt.Sprint(votes), got, want)
	}
	if want == impl.OK {
		return
	}
	for _, r := range []impl.Reply{{}, {Code: 11, Value: -2, Path: strings.Repeat("/", 25)}} {
		if got := impl.VotersFor(f, votes, r); !sameInts(got, noPlaces(want)) {
			t.Errorf("%s: VotersFor of %d and %.300s: %+v, want the code %d alone", name, f, fmt.Sprint(votes), got, want)
		}
	}
	if got := impl.AcceptOf(f, votes); got != noReply(want) {
		t.Errorf("%s: AcceptOf of %d and %.300s: %+v, want the code %d alone", name, f, fmt.Sprint(votes), got, want)
	}
}

// checkNobodyTells asks what a client asks of a cluster with a fault: it is told that alone, whatever it asks and whoever lies.
func checkNobodyTells(t *testing.T, name string, c impl.Cluster, fault int64) {
	t.Helper()
	lies := [][]impl.Vote{nil, sayings(withValue(1), 1), sayings(codeAt(11, -2), 0, 8), make([]impl.Vote, 41)}
	for at, asked := range []int64{1, 0, 10, 100} {
		if got := impl.GatherC(c, asked, asked); !sameVotes(got, noVotes(fault)) {
			t.Errorf("%s: GatherC of %.300s: %+v, want the code %d alone", name, fmt.Sprint(c), got, fault)
		}
		if got := impl.AskC(c, asked, asked, lies[at]); got != noReply(fault) {
			t.Errorf("%s: AskC of %.300s: %+v, want the code %d alone", name, fmt.Sprint(c), got, fault)
		}
	}
}

func TestVotesAskFFirst(t *testing.T) {
	fine := sayings(withValue(5), 1, 2, 3, 4)
	for _, f := range noFs {
		for _, votes := range [][]impl.Vote{nil, {}, fine, make([]impl.Vote, 1), make([]impl.Vote, 41), sayings(codeAt(11, -2), 1)} {
			checkSayings(t, "no f", f, votes, impl.ErrRange)
		}
	}
	for _, f := range []int64{1, 2} {
		checkSayings(t, "an f", f, fine, impl.OK)
	}
}

func TestVotesFaultAsksHowMany(t *testing.T) {
	odd := codeAt(11, -2)
	for _, f := range []int64{1, 2} {
		for _, many := range []int{0, 1, 2, 39, 40} {
			checkSayings(t, "so many", f, slices.Repeat(sayings(withValue(5), 1), many), impl.OK)
			if many > 0 {
				checkSayings(t, "so many that are none", f, make([]impl.Vote, many), impl.ErrRange)
				checkSayings(t, "so many of an odd Reply", f, slices.Repeat(sayings(odd, 1), many), impl.ErrRange)
			}
		}
		for _, many := range []int{41, 42, 80, 1 << 12} {
			// How many there are is asked ahead of what each of them is.
			checkSayings(t, "too many", f, slices.Repeat(sayings(withValue(5), 1), many), impl.ErrMany)
			checkSayings(t, "too many that are none", f, make([]impl.Vote, many), impl.ErrMany)
			checkSayings(t, "too many of an odd Reply", f, slices.Repeat(sayings(odd, 1), many), impl.ErrMany)
		}
	}
	checkSayings(t, "nil", 1, nil, impl.OK)
	checkSayings(t, "none", 2, []impl.Vote{}, impl.OK)
}

// replyCases are replies around each bound.
func replyCases() map[impl.Reply]int64 {
	long := strings.Repeat("x", 24)
	return map[impl.Reply]int64{
		{}: impl.OK, {Code: 10}: impl.OK, {Code: -1}: impl.ErrRange, {Code: 11}: impl.ErrRange, {Code: math.MinInt64}: impl.ErrRange, {Code: math.MaxInt64}: impl.ErrRange, {Code: 1 << 32}: impl.ErrRange,
		{Value: -1}: impl.OK, {Value: 9999}: impl.OK, {Value: -2}: impl.ErrRange, {Value: 10000}: impl.ErrRange, {Value: math.MinInt64}: impl.ErrRange, {Value: math.MaxInt64}: impl.ErrRange, {Value: 1 << 32}: impl.ErrRange,
		{Path: "/a"}: impl.OK, {Path: "no path"}: impl.OK, {Path: "\xff\x00\n"}: impl.OK, {Path: long}: impl.OK, {Path: long + "x"}: impl.ErrRange, {Path: strings.Repeat("é", 12)}: impl.OK, {Path: strings.Repeat("é", 13)}: impl.ErrRange, {Path: strings.Repeat("x", 1<<12)}: impl.ErrRange,
		{Code: 10, Value: 9999, Path: long}: impl.OK, {Code: 10, Value: -1, Path: long}: impl.OK, {Code: 11, Value: -2, Path: long + "x"}: impl.ErrRange,
	}
}

func TestVotesFaultAsksEachVote(t *testing.T) {
	for _, f := range []int64{1, 2} {
		last := 3*f + 1
		fine := sayings(withWhere("/a"), 1, 2, last, last, 1)
		check := func(name string, v impl.Vote, want int64) {
			t.Helper()
			checkSayings(t, name+" alone", f, []impl.Vote{v}, want)
			for at := range len(fine) + 1 {
				checkSayings(t, fmt.Sprintf("%s at %d", name, at), f, slices.Insert(slices.Clone(fine), at, v), want)
			}
			// The last one that there may be is asked, too.
			checkSayings(t, name+" as the last one", f, append(slices.Repeat(fine, 8)[:39], v), want)
		}
		for r, want := range replyCases() {
			check(fmt.Sprintf("%+v", r), voteOf(2, r), want)
			check(fmt.Sprintf("%+v of nobody", r), voteOf(0, r), impl.ErrRange)
		}
		for id := int64(1); id <= last; id++ {
			check("a replica", voteOf(id, withValue(-1)), impl.OK)
		}
		for _, id := range []int64{math.MinInt64, -1, 0, last + 1, last + 2, 1<<32 + 1, math.MaxInt64} {
			check("no replica", voteOf(id, withValue(-1)), impl.ErrRange)
		}
	}
	checkSayings(t, "the fifth of four", 1, sayings(withValue(1), 5), impl.ErrRange)
	checkSayings(t, "the fifth of seven", 2, sayings(withValue(1), 5), impl.OK)
}

func checkVoters(t *testing.T, name string, f int64, votes []impl.Vote, r impl.Reply, want ...int64) {
	t.Helper()
	if got := impl.VotersFor(f, votes, r); !sameInts(got, placesOf(want...)) {
		t.Errorf("%s, of %+v and %+v: %+v, want %v", name, votes, r, got, want)
	}
}

func TestVotersFor(t *testing.T) {
	long := strings.Repeat("x", 24)
	a := impl.Reply{Code: 4, Value: 7, Path: "/a"}
	for _, f := range []int64{1, 2} {
		last := 3*f + 1
		checkVoters(t, "no votes", f, nil, a)
		checkVoters(t, "one", f, sayings(a, last), a, last)
		for _, other := range []impl.Reply{{}, {Code: 5, Value: 7, Path: "/a"}, {Code: 4, Value: 8, Path: "/a"}, {Code: 4, Value: 7, Path: "/b"}, {Code: 4, Value: 7}, {Code: 4, Value: 7, Path: "/a/a"}, {Code: 4, Path: "/a"}, {Value: 7, Path: "/a"}, {Code: 7, Value: 4, Path: "/a"}} {
			checkVoters(t, "nobody has it", f, sayings(a, 1, 2, 3), other)
			checkVoters(t, "two, of which each has its own", f, slices.Concat(sayings(a, 3, 1), sayings(other, 2, 3)), a, 1, 3)
			checkVoters(t, "two, of which each has its own", f, slices.Concat(sayings(a, 3, 1), sayings(other, 2, 3)), other, 2, 3)
		}
		// A Reply that none of votes may have is one that nobody has.
		for r, want := range replyCases() {
			votes := sayings(a, 1, 2, 3)
			checkVoters(t, "nobody has it", f, votes, r)
			if want == impl.OK {
				checkVoters(t, "two have it", f, slices.Concat(votes, sayings(r, 4, 2)), r, 2, 4)
			}
		}
		checkVoters(t, "of the greatest Path", f, slices.Concat(sayings(withWhere(long), 2), sayings(withWhere(long[1:]), 3)), withWhere(long), 2)
		checkVoters(t, "a prefix of it", f, slices.Concat(sayings(withWhere(long), 2), sayings(withWhere(long[1:]), 3)), withWhere(long[1:]), 3)
		all := firstOnes(last)
		falling := lastOnes(f, last)
		checkVoters(t, "rising", f, sayings(a, all...), a, all...)
		checkVoters(t, "falling", f, sayings(a, falling...), a, all...)
		checkVoters(t, "falling, twice", f, slices.Repeat(sayings(a, falling...), 2), a, all...)
		checkVoters(t, "one, 40 times", f, slices.Repeat(sayings(a, 2), 40), a, 2)
		checkVoters(t, "one, and another between", f, sayings(a, 3, 1, 3, 1, 3), a, 1, 3)
		// Who says several things is a voter for each of them.
		votes := slices.Concat(sayings(a, 2), sayings(withValue(1), 2), sayings(a, 1), sayings(withValue(1), 3, 2))
		checkVoters(t, "several of one", f, votes, a, 1, 2)
		checkVoters(t, "several of one", f, votes, withValue(1), 2, 3)
	}
}

func checkAccept(t *testing.T, name string, f int64, votes []impl.Vote, want impl.ReplyResult) {
	t.Helper()
	if got := impl.AcceptOf(f, votes); got != want {
		t.Errorf("%s, of %d and %+v: %+v, want %+v", name, f, votes, got, want)
	}
}

func believed(r impl.Reply) impl.ReplyResult {
	return impl.ReplyResult{Reply: r}
}

func TestAcceptOf(t *testing.T) {
	a, b, none := impl.Reply{Code: 4, Value: 7, Path: "/a"}, impl.Reply{Value: -1}, noReply(impl.ErrSign)
	for _, f := range []int64{1, 2} {
		last := 3*f + 1
		few, enough := firstOnes(f), firstOnes(f+1)
		checkAccept(t, "no votes", f, nil, none)
		checkAccept(t, "too few", f, sayings(a, few...), none)
		checkAccept(t, "just enough", f, sayings(a, enough...), believed(a))
		checkAccept(t, "just enough, the last ones", f, sayings(a, lastOnes(f, f+1)...), believed(a))
		checkAccept(t, "too few, the last ones", f, sayings(a, lastOnes(f, f)...), none)
		checkAccept(t, "all", f, sayings(a, firstOnes(last)...), believed(a))
		checkAccept(t, "enough votes of one", f, slices.Repeat(sayings(a, 2), int(f)+1), none)
		checkAccept(t, "40 votes of one", f, slices.Repeat(sayings(a, 2), 40), none)
		checkAccept(t, "too few, again and again", f, slices.Repeat(sayings(a, few...), 10), none)
		checkAccept(t, "just enough, behind many of one", f, slices.Concat(slices.Repeat(sayings(a, 1), 30), sayings(a, enough...)), believed(a))
		checkAccept(t, "enough, but half of another Reply", f, slices.Concat(sayings(a, few...), sayings(b, f+1)), none)
		// Of those with enough the one that stands first is taken, wherever its voters stand.
		checkAccept(t, "the first of two", f, slices.Concat(sayings(a, enough...), sayings(b, enough...)), believed(a))
		checkAccept(t, "the first of two", f, slices.Concat(sayings(b, enough...), sayings(a, enough...)), believed(b))
		checkAccept(t, "one that stands first, and has its voters last", f, slices.Concat(sayings(a, 1), sayings(b, enough...), sayings(a, enough[1:]...)), believed(a))
		checkAccept(t, "one that stands first, and has too few", f, slices.Concat(sayings(a, few...), sayings(b, enough...), sayings(a, few...)), believed(b))
		checkAccept(t, "the second of three", f, slices.Concat(sayings(withValue(1), few...), sayings(a, enough...), sayings(b, firstOnes(last)...)), believed(a))
		checkAccept(t, "the one with fewer voters", f, slices.Concat(sayings(a, enough...), sayings(b, firstOnes(last)...)), believed(a))
		// All alike but one thing is another Reply.
		for _, other := range []impl.Reply{{Code: 5, Value: 7, Path: "/a"}, {Code: 4, Value: 8, Path: "/a"}, {Code: 4, Value: 7, Path: "/b"}} {
			checkAccept(t, "one thing is another", f, slices.Concat(sayings(a, few...), sayings(other, last)), none)
		}
		for r, want := range replyCases() {
			if want == impl.OK {
				checkAccept(t, "of each bound", f, sayings(r, enough...), believed(r))
			}
		}
	}
	checkAccept(t, "two of four", 1, sayings(a, 3, 4), believed(a))
	checkAccept(t, "two of seven", 2, sayings(a, 3, 4), none)
}

// tellers are a cluster of which the first three of built's requests are decided, and done by those that are not bad up to here and there.
func tellers(f int64, bad ...int64) impl.Cluster {
	return offering(clusterOf(f, 0, decidedAs(f, 1, 0, 2, 3), bad...), built()...)
}

func checkGather(t *testing.T, name string, c impl.Cluster, client int64, number int64, want ...impl.Vote) {
	t.Helper()
	if got := impl.GatherC(c, client, number); !sameVotes(got, votesResult(want...)) {
		t.Errorf("%s, of %d and %d: %+v, want %+v", name, client, number, got, want)
	}
}

func TestGatherC(t *testing.T) {
	made := withWhere("/a")
	for _, f := range []int64{1, 2} {
		for _, bad := range [][]int64{nil, {1}, {2}, {3*f + 1}, firstOnes(f)} {
			c := tellers(f, bad...)
			checkCluster(t, "told", c, impl.OK)
			good := modelGood(f, bad)
			for done := range int64(5) {
				all := doneBy(c, done)
				opens, makes, sets := []impl.Vote(nil), []impl.Vote(nil), []impl.Vote(nil)
				if done >= 1 {
					opens = sayings(impl.Reply{}, good...)
				}
				if done >= 3 {
					makes = sayings(made, good...)
				}
				if done >= 4 {
					sets = sayings(withValue(1), good...)
				}
				checkGather(t, "all", all, 1, 1, opens...)
				checkGather(t, "all", all, 1, 2, makes...)
				checkGather(t, "all", all, 1, 3, sets...)
				checkGather(t, "of what is not decided", all, 1, 4)
				for _, far := range []int64{math.MinInt64, -1, 0, 10, 100, 1<<32 + 1, math.MaxInt64} {
					checkGather(t, "of nobody", all, far, 1)
					checkGather(t, "of no number", all, 1, far)
					checkGather(t, "of neither", all, far, far)
				}
				checkGather(t, "of another client", all, 2, 1)
				// Each that has done it tells of it, whatever the others have done.
				var some []impl.Vote
				mixed := c
				for at, one := range c.Replicas {
					mixed = standing(mixed, withDone(one, (done+int64(at))%5))
					if (done+int64(at))%5 >= 3 {
						some = append(some, voteOf(one.Id, made))
					}
				}
				checkGather(t, "some", mixed, 1, 2, some...)
			}
		}
		// In whatever view one is, and be it waiting, it tells what it has done.
		c := allStanding(doneBy(tellers(f), 3), withDone(waiting(2, 20), 3), withDone(waiting(1, 7), 2))
		checkGather(t, "in other views", c, 1, 2, sayings(made, firstOnes(3*f + 1)[1:]...)...)
		checkGather(t, "no requests, nothing said", clusterOf(f, 0, nil), 1, 1)
	}
}

// Whose ReplyC has a code, be it that of its state, tells nothing; the others tell all the same.
func TestGatherCWithoutThoseWhoCannotTell(t *testing.T) {
	for _, f := range []int64{1, 2} {
		// The third slot holds what is beyond all requests.
		c := offering(clusterOf(f, 0, decidedAs(f, 1, 2, 5, 3)), built()...)
		for done, want := range [][]int64{{}, {}, {3*f + 1}, {}, {}} {
			for others, wants := range [][]int64{{}, {}, firstOnes(3 * f), {}, {}} {
				mixed := standing(doneBy(c, int64(others)), withDone(inFirst(3*f+1), int64(done)))
				checkGather(t, fmt.Sprintf("%d, and %d", others, done), mixed, 1, 2, sayings(withWhere("/a"), slices.Concat(wants, want)...)...)
			}
		}
	}
	// What has a code in its Reply is told as it is.
	c := doneBy(offering(clusterOf(1, 0, decidedAs(1, 1), 2), asked(3, 9, 0, create("/a", 1))), 1)
	checkGather(t, "a Reply with a code", c, 3, 9, sayings(withCode(impl.ErrSession), 1, 3, 4)...)
}

func checkAsk(t *testing.T, name string, c impl.Cluster, number int64, lies []impl.Vote, want impl.ReplyResult) {
	t.Helper()
	if got := impl.AskC(c, 1, number, lies); got != want {
		t.Errorf("%s, of %d with the lies %+v: %+v, want %+v", name, number, lies, got, want)
	}
}

// doneByFirst is a cluster in which the first so many of those that are not bad have done three slots, all others none.
func doneByFirst(c impl.Cluster, many int) impl.Cluster {
	for _, one := range c.Replicas[:many] {
		c = standing(c, withDone(one, 3))
	}
	return c
}

func TestAskC(t *testing.T) {
	made, lie, none := withWhere("/a"), withValue(9), noReply(impl.ErrSign)
	for _, f := range []int64{1, 2} {
		for many := range int(f) + 1 {
			bad := lastOnes(f, int64(many))
			slices.Reverse(bad)
			c := tellers(f, bad...)
			for did := range len(c.Replicas) + 1 {
				asked := doneByFirst(c, did)
				want := none
				if did > int(f) {
					want = believed(made)
				}
				name := fmt.Sprintf("%d did it, %d are bad, of f %d", did, many, f)
				checkAsk(t, name+", no lies", asked, 2, nil, want)
				checkAsk(t, name+", no lies", asked, 2, []impl.Vote{}, want)
				checkAsk(t, name+", of what is not done", asked, 3, nil, none)
				checkAsk(t, name+", of what is not decided", asked, 4, nil, none)
				checkAsk(t, name+", all who are bad lie", asked, 2, sayings(lie, bad...), want)
				checkAsk(t, name+", all who are bad lie thrice", asked, 2, slices.Repeat(sayings(lie, bad...), 3), want)
				checkAsk(t, name+", all who are bad lie of what is not done", asked, 3, slices.Repeat(sayings(lie, bad...), 3), none)
				// What a bad one says as the others do counts, once.
				told := none
				if did > 0 && did+many > int(f) {
					told = believed(made)
				}
				checkAsk(t, name+", who is bad says the same", asked, 2, sayings(made, bad...), told)
				checkAsk(t, name+", who is bad says the same thrice", asked, 2, slices.Repeat(sayings(made, bad...), 3), told)
				checkAsk(t, name+", who is bad says both", asked, 2, slices.Concat(sayings(lie, bad...), sayings(made, bad...)), told)
			}
		}
		// As many as may be bad, and each of them f+1 times, are not enough, whatever else is told.
		c := tellers(f, firstOnes(f)...)
		lies := slices.Repeat(sayings(lie, firstOnes(f)...), int(f)+1)
		checkAsk(t, "nothing is gathered", c, 2, lies, none)
		checkAsk(t, "another one is gathered", doneBy(c, 3), 2, lies, believed(made))
		checkAsk(t, "another one is gathered of one", doneByFirst(c, 1), 2, lies, none)
		checkAsk(t, "one of f+1 says so", doneByFirst(c, 1), 2, sayings(made, firstOnes(f)...), believed(made))
		checkAsk(t, "one alone lies so often", tellers(f, 1), 2, slices.Repeat(sayings(lie, 1), int(f)+1), none)
		checkAsk(t, "what is not so at all", doneBy(c, 4), 9, lies, none)
		// Of a client or a number that nobody may have the lies alone are left.
		for _, far := range []int64{math.MinInt64, -1, 0, 10, 100, math.MaxInt64} {
			if got := impl.AskC(doneBy(c, 3), far, far, lies); got != none {
				t.Errorf("of %d: %+v, want %+v", far, got, none)
			}
		}
	}
}

// The votes of those who are bad stand first, and yet the f+1 of the others are what is believed.
func TestAskCTakesTheFirstWithEnough(t *testing.T) {
	made, other := withWhere("/a"), withWhere("/b")
	c := tellers(2, 6, 7)
	for _, did := range []int{3, 4, 5} {
		lies := slices.Concat(sayings(other, 6, 7), sayings(made, 6))
		checkAsk(t, "the lie stands first", doneByFirst(c, did), 2, lies, believed(made))
		slices.Reverse(lies)
		checkAsk(t, "the lie stands behind", doneByFirst(c, did), 2, lies, believed(made))
	}
}

// A client counts all that it is told: of more than 40 votes, lies or not, it believes none.
func TestAskCOfManyVotes(t *testing.T) {
	made, lie := withWhere("/a"), withValue(9)
	for _, f := range []int64{1, 2} {
		c := tellers(f, 3*f+1)
		for did := range len(c.Replicas) + 1 {
			for many := 30; many <= 42; many++ {
				for _, says := range []impl.Reply{lie, made} {
					want := noReply(impl.ErrSign)
					switch {
					case many > 40 || many+did > 40:
						want = noReply(impl.ErrMany)
					case did > int(f) || did == int(f) && says == made:
						want = believed(made)
					}
					checkAsk(t, fmt.Sprintf("%d lies, %d did it", many, did), doneByFirst(c, did), 2, slices.Repeat(sayings(says, 3*f+1), many), want)
				}
			}
		}
		// With nothing gathered 40 are not too many.
		checkAsk(t, "40 lies alone", c, 2, slices.Repeat(sayings(lie, 3*f+1), 40), noReply(impl.ErrSign))
	}
}

func TestAskCAsksTheLies(t *testing.T) {
	made := withWhere("/a")
	for _, f := range []int64{1, 2} {
		last := 3*f + 1
		for _, c := range []impl.Cluster{tellers(f, last), doneBy(tellers(f, last), 3)} {
			for _, id := range firstOnes(last - 1) {
				stranger := voteOf(id, made)
				checkAsk(t, "From one that is not bad", c, 2, []impl.Vote{stranger}, noReply(impl.ErrSign))
				checkAsk(t, "behind a lie", c, 2, []impl.Vote{voteOf(last, made), stranger}, noReply(impl.ErrSign))
				checkAsk(t, "ahead of a lie", c, 2, []impl.Vote{stranger, voteOf(last, made)}, noReply(impl.ErrSign))
				checkAsk(t, "as the last of 40", c, 2, append(slices.Repeat(sayings(made, last), 39), stranger), noReply(impl.ErrSign))
				// What no vote may be is asked of all of them ahead of who told it.
				checkAsk(t, "too many", c, 2, slices.Repeat([]impl.Vote{stranger}, 41), noReply(impl.ErrMany))
				for r, want := range replyCases() {
					if want != impl.OK {
						checkAsk(t, "of no Reply", c, 2, []impl.Vote{voteOf(last, r)}, noReply(want))
						checkAsk(t, "of no Reply, ahead", c, 2, []impl.Vote{voteOf(id, r), stranger}, noReply(want))
						checkAsk(t, "of no Reply, behind", c, 2, []impl.Vote{stranger, voteOf(last, r)}, noReply(want))
					}
				}
				for _, nobody := range []int64{math.MinInt64, -1, 0, last + 1, math.MaxInt64} {
					checkAsk(t, "of nobody, behind", c, 2, []impl.Vote{stranger, voteOf(nobody, made)}, noReply(impl.ErrRange))
					checkAsk(t, "of nobody", c, 2, []impl.Vote{voteOf(nobody, made)}, noReply(impl.ErrRange))
				}
				// Where nobody is bad nobody lies.
				all := tellers(f)
				checkAsk(t, "nobody is bad", all, 2, []impl.Vote{stranger}, noReply(impl.ErrSign))
				checkAsk(t, "nobody is bad, all did it", doneBy(all, 3), 2, []impl.Vote{stranger}, noReply(impl.ErrSign))
				checkAsk(t, "nobody is bad, all did it, no lies", doneBy(all, 3), 2, nil, believed(made))
			}
		}
	}
	// The votes are asked with the f of the cluster.
	checkAsk(t, "the fifth of four", tellers(1, 4), 2, sayings(made, 5), noReply(impl.ErrRange))
	checkAsk(t, "the fifth of seven", tellers(2, 5), 2, sayings(made, 5), noReply(impl.ErrSign))
}

func TestReplyText(t *testing.T) {
	long := strings.Repeat("x", 24)
	for r, want := range map[impl.Reply]string{
		{}:                                   "code 0 0",
		{Value: 7}:                           "code 0 7",
		{Value: -1}:                          "code 0 -1",
		{Value: 9999}:                        "code 0 9999",
		{Value: 10}:                          "code 0 10",
		{Code: 10}:                           "code 10 0",
		{Code: 4, Value: -1, Path: "/a"}:     "code 4 -1 /a",
		{Path: "/a/b"}:                       "code 0 0 /a/b",
		{Path: "/"}:                          "code 0 0 /",
		{Path: " "}:                          "code 0 0  ",
		{Path: "no path"}:                    "code 0 0 no path",
		{Path: "\xff\n\x00"}:                 "code 0 0 \xff\n\x00",
		{Path: long}:                         "code 0 0 " + long,
		{Code: 10, Value: 9999, Path: long}:  "code 10 9999 " + long,
		{Code: 10, Value: -1, Path: long}:    "code 10 -1 " + long,
		{Code: 9, Value: 100, Path: "/lock"}: "code 9 100 /lock",
	} {
		if got := impl.ReplyText(r); got != (impl.TextResult{Text: want}) {
			t.Errorf("%+v: %+v, want %q", r, got, want)
		}
	}
	for r, want := range replyCases() {
		got := impl.ReplyText(r)
		if got.Code != want || (got.Text == "") != (want != impl.OK) {
			t.Errorf("%+v: %+v, want the code %d", r, got, want)
		}
	}
}

// A whole story: two do a request, one lies, and the client believes it when enough have told the same.
func TestAskCOfAStory(t *testing.T) {
	c := offering(clusterOf(1, 0, decidedAs(1, 1, 2), 4), built()[:2]...)
	lies := sayings(withWhere("/b"), 4, 4)
	for step, want := range []impl.ReplyResult{noReply(impl.ErrSign), noReply(impl.ErrSign), noReply(impl.ErrSign), noReply(impl.ErrSign), believed(withWhere("/a")), noReply(impl.ErrSign), believed(withWhere("/a"))} {
		checkAsk(t, fmt.Sprintf("step %d", step), c, 2, lies, want)
		switch step {
		case 0, 1:
			c = impl.DoneC(c, 1).Cluster
		case 2, 3:
			c = impl.DoneC(c, 3).Cluster
		case 4:
			// Who has it done no more tells it no more.
			c.Replicas[2].Done = 0
		case 5:
			c.Replicas[2].Done = 2
		}
	}
}

func TestVotesAreWhatTheModelTells(t *testing.T) {
	t.Parallel()
	r := rand.New(rand.NewPCG(88, 88))
	var codes [6]map[int64]int
	for at := range codes {
		codes[at] = map[int64]int{}
	}
	gathered, voters := 0, 0
	for range 2000 {
		c := drawnVoteCall(r)
		got, want := programVote(c), modelVote(c)
		if !sameVoteAnswers(got, want) {
			t.Fatalf("of %+v:\n%+v, want\n%+v", c, got, want)
		}
		gathered, voters = gathered+len(got.gathered.Votes), voters+len(got.voters.List)
		for at, code := range got.codes() {
			codes[at][code]++
		}
	}
	for at, wants := range [...]map[int64]int{
		{impl.OK: 1000, impl.ErrRange: 100, impl.ErrMany: 50},
		{impl.OK: 1000, impl.ErrRange: 100, impl.ErrMany: 50},
		{impl.OK: 400, impl.ErrRange: 100, impl.ErrMany: 50, impl.ErrSign: 400},
		{impl.OK: 1000},
		{impl.OK: 300, impl.ErrRange: 50, impl.ErrMany: 50, impl.ErrSign: 300},
		{impl.OK: 1000, impl.ErrRange: 100},
	} {
		for code, least := range wants {
			if codes[at][code] < least {
				t.Errorf("function %d: the code %d was told only %d times", at, code, codes[at][code])
			}
		}
	}
	if gathered < 1500 || voters < 1500 {
		t.Errorf("only %d votes were gathered, and %d voters told", gathered, voters)
	}
}

// sayers tells which replicas have a vote with a Reply.
func sayers(votes []impl.Vote, r impl.Reply) map[int64]bool {
	all := map[int64]bool{}
	for _, v := range votes {
		if v.Reply == r {
			all[v.From] = true
		}
	}
	return all
}

// Promise 15: what AcceptOf tells more than f have said, each counted once, and whatever f of them are bad, one that is not has said it; what more than f have said is not told no one at all.
func TestWhatIsBelievedEnoughHaveSaid(t *testing.T) {
	r := rand.New(rand.NewPCG(89, 89))
	some, none := 0, 0
	for range 4000 {
		c := drawnVoted(r)
		switch got := impl.AcceptOf(c.f, c.votes); got.Code {
		case impl.OK:
			some++
			if !slices.ContainsFunc(c.votes, func(v impl.Vote) bool { return v.Reply == got.Reply }) || len(sayers(c.votes, got.Reply)) <= int(c.f) {
				t.Fatalf("of %d and %+v: %+v", c.f, c.votes, got)
			}
			if voters := impl.VotersFor(c.f, c.votes, got.Reply); len(voters.List) != len(sayers(c.votes, got.Reply)) || !modelRises(voters.List) {
				t.Fatalf("of %d and %+v: the voters %+v", c.f, c.votes, voters)
			}
		case impl.ErrSign:
			none++
			for _, v := range c.votes {
				if len(sayers(c.votes, v.Reply)) > int(c.f) {
					t.Fatalf("of %d and %+v: %+v, and enough said %+v", c.f, c.votes, got, v.Reply)
				}
			}
		default:
			t.Fatalf("of %d and %+v: %+v", c.f, c.votes, got)
		}
	}
	if some < 800 || none < 800 {
		t.Errorf("%d were believed, %d were not", some, none)
	}
}

// Promise 15: each that has done a request tells the client of it, with what it comes to, and nobody else does; what a client believes of it one that is not bad has done.
func TestWhoHasDoneItTells(t *testing.T) {
	t.Parallel()
	r := rand.New(rand.NewPCG(90, 90))
	told, believed, unbelieved := 0, 0, 0
	for range 500 {
		c := drawnFineVote(r)
		gathered := impl.GatherC(c.c, c.client, c.number).Votes
		for _, one := range c.c.Replicas {
			reply := impl.ReplyC(c.c, one.Id, c.client, c.number)
			did := slices.ContainsFunc(impl.ValuesC(c.c, one.Id).List, func(value int64) bool {
				return value > 0 && value <= int64(len(c.c.Requests)) && c.c.Requests[value-1].Client == c.client && c.c.Requests[value-1].Number == c.number
			})
			at := slices.IndexFunc(gathered, func(v impl.Vote) bool { return v.From == one.Id })
			switch {
			case (reply.Code == impl.OK) != (at >= 0):
				t.Fatalf("%d of %+v: the reply %+v, and all tell %+v", one.Id, c, reply, gathered)
			case at >= 0 && (!did || gathered[at].Reply != reply.Reply):
				t.Fatalf("%d of %+v: it tells %+v, and the reply is %+v", one.Id, c, gathered[at], reply)
			case at < 0 && did && impl.StateC(c.c, one.Id).Code == impl.OK:
				t.Fatalf("%d of %+v has done it, and does not tell", one.Id, c)
			}
		}
		if told += len(gathered); slices.ContainsFunc(gathered, func(v impl.Vote) bool { return slices.Contains(c.c.Bad, v.From) }) {
			t.Fatalf("of %+v: one that is bad tells %+v", c, gathered)
		}
		got := impl.AskC(c.c, c.client, c.number, c.lies)
		all := sayers(slices.Concat(c.lies, gathered), got.Reply)
		switch {
		case got.Code != impl.OK:
			unbelieved++
		case len(all) <= int(c.c.F) || len(sayers(gathered, got.Reply)) == 0:
			t.Fatalf("of %+v: %+v is believed, told by %v", c, got, all)
		default:
			believed++
		}
	}
	if told < 500 || believed < 100 || unbelieved < 100 {
		t.Errorf("%d told, %d believed, %d not", told, believed, unbelieved)
	}
}

// Promise 15, of clusters that go on by what they may do: whatever those say who are bad, what is believed is what one that is not bad tells.
func TestLiesAreNotBelieved(t *testing.T) {
	r := rand.New(rand.NewPCG(91, 91))
	did := map[string]int{}
	believed := 0
	for range 30 {
		f := 1 + r.Int64N(2)
		n := clusterRun{t: t, r: r, did: did, c: impl.NewCluster(f, drawnBad(r, f, 0)).Cluster}
		for turn := range int64(5) {
			n.take("OfferC", 0, impl.OfferC(n.c, drawnRequests(r, 1)[0]))
			for _, at := range r.Perm(len(n.c.Replicas)) {
				n.act(n.c.Replicas[at].Id)
				n.lie(0)
				if told := impl.DoneC(n.c, n.c.Replicas[at].Id); told.Code == impl.OK {
					n.c = told.Cluster
				}
			}
			asked := n.c.Requests[r.Int64N(turn+1)]
			gathered := impl.GatherC(n.c, asked.Client, asked.Number).Votes
			replies := drawnMany(r, 2, drawnReply)
			for _, v := range gathered {
				replies = append(replies, v.Reply)
			}
			for range 8 {
				var lies []impl.Vote
				if len(n.c.Bad) > 0 {
					lies = drawnVotes(r, r.IntN(34), n.c.Bad, replies)
				}
				got := impl.AskC(n.c, asked.Client, asked.Number, lies)
				switch {
				case got.Code == impl.OK && len(sayers(gathered, got.Reply)) == 0:
					t.Fatalf("of %+v with the lies %+v: %+v, and the others say %+v", n.c, lies, got, gathered)
				case got.Code == impl.OK:
					believed++
				case got != noReply(impl.ErrSign):
					t.Fatalf("of %+v with the lies %+v: %+v", n.c, lies, got)
				case len(gathered) > int(f) && len(sayers(gathered, gathered[0].Reply)) > int(f):
					t.Fatalf("of %+v with the lies %+v: %+v, and the others say %+v", n.c, lies, got, gathered)
				}
			}
		}
	}
	if believed < 100 {
		t.Errorf("only %d were believed", believed)
	}
}

// Promise 1: every argument has an answer, however long a list is or how odd its numbers are; no panic leaves the package.
func TestEveryVoteIsAnswered(t *testing.T) {
	far := []int64{math.MinInt64, -2, -1, 0, 1, 2, 4, 5, 8, 10, 11, 40, 99, 100, 9999, 10000, math.MaxInt64}
	for i, n := range far {
		for j, other := range far {
			odd := impl.Reply{Code: n, Value: other, Path: strings.Repeat("\xff", (i+j)%27)}
			lists := [][]impl.Vote{nil, {}, {voteOf(other, odd)}, sayings(withValue(1), 1, 2, n, other), slices.Repeat(sayings(odd, n), 1<<9), sayings(withCode(n), 1, 2, 3), sayings(withCode(4), 4, 4)}
			for k, votes := range lists {
				c := voteCall{f: 1 + int64(i+j)%2, votes: votes, r: odd, c: doneBy(tellers(1+int64(j)%2, 4), int64(i)%5), client: n, number: other, lies: lists[(i+j+k)%len(lists)]}
				switch k % 3 {
				case 0:
					c.f, c.c.F = n, other
				case 1:
					c.client, c.number = 1, 2
				}
				if got, want := answersOf(t, programVote, c), modelVote(c); !sameVoteAnswers(got, want) {
					t.Fatalf("of %.300s: %+v, want %+v", fmt.Sprint(c), got, want)
				}
			}
		}
	}
}

// Promise 1: an answer hangs on the arguments alone, so it is the same in whatever order it is asked.
func TestVoteAnswersHangOnArgumentsAlone(t *testing.T) {
	r := rand.New(rand.NewPCG(92, 92))
	checkAgain(t, drawnMany(r, 150, drawnVoteCall), programVote, sameVoteAnswers)
}

// ownVotes are the same votes, each with a Path of its own memory.
func ownVotes(votes []impl.Vote) []impl.Vote {
	votes = roomy(votes)
	for i := range votes {
		votes[i].Reply.Path = strings.Clone(votes[i].Reply.Path)
	}
	return votes
}

func spansOfVotes(votes []impl.Vote) []span {
	all := spanOf(votes)
	for _, v := range votes {
		all = append(all, spanOfText(v.Reply.Path)...)
	}
	return all
}

func spansOfVoteAnswers(a voteAnswers) []span {
	return slices.Concat(spanOf(a.voters.List), spanOfText(a.accepted.Reply.Path), spansOfVotes(a.gathered.Votes), spanOfText(a.told.Reply.Path), spanOfText(a.text.Text))
}

// drawnOwnVoteCall draws a call of which nothing lies where anything else does.
func drawnOwnVoteCall(r *rand.Rand) voteCall {
	c := drawnVoteCall(r)
	c.c, c.votes, c.lies = ownCluster(c.c), ownVotes(c.votes), ownVotes(c.lies)
	c.r.Path = strings.Clone(c.r.Path)
	return c
}

// Promise 1: what is answered shares no memory with what is handed in, nor one answer with another, nor two things of one.
func TestVoteAnswersAreNewMemory(t *testing.T) {
	t.Parallel()
	r := rand.New(rand.NewPCG(93, 93))
	things := 0
	for range 600 {
		c := drawnOwnVoteCall(r)
		first, second, want := programVote(c), programVote(c), modelVote(c)
		want.voters.List, want.gathered.Votes = slices.Clone(want.voters.List), slices.Clone(want.gathered.Votes)
		told := slices.Concat(spansOfVoteAnswers(first), spansOfVoteAnswers(second))
		if things += len(told); !spansApart(slices.Concat(told, spansOfCluster(c.c), spansOfVotes(c.votes), spansOfVotes(c.lies), spanOfText(c.r.Path))) {
			t.Fatalf("of %+v: %+v shares memory", c, first)
		}
		clear(first.voters.List[:cap(first.voters.List)])
		clear(first.gathered.Votes[:cap(first.gathered.Votes)])
		if !sameVoteAnswers(second, want) || !sameVoteAnswers(programVote(c), want) {
			t.Fatalf("of %+v: who writes into an answer turns another", c)
		}
		wipeCluster(c.c)
		clear(c.votes[:cap(c.votes)])
		clear(c.lies[:cap(c.lies)])
		if !sameVoteAnswers(second, want) {
			t.Fatalf("the answer turned with what was handed in: %+v, want %+v", second, want)
		}
	}
	if things < 1800 {
		t.Errorf("only %d lists and texts were told", things)
	}
}

// Promise 1: no call changes the cluster, its lists, or the votes, nor what lies behind them.
func TestVoteArgumentsStayAsTheyAre(t *testing.T) {
	t.Parallel()
	r := rand.New(rand.NewPCG(94, 94))
	for range 600 {
		c := drawnOwnVoteCall(r)
		old, votes, lies := ownCluster(wholeCluster(c.c)), slices.Clone(c.votes[:cap(c.votes)]), slices.Clone(c.lies[:cap(c.lies)])
		programVote(c)
		if !sameClusters(wholeCluster(c.c), old) || !slices.Equal(c.votes[:cap(c.votes)], votes) || !slices.Equal(c.lies[:cap(c.lies)], lies) {
			t.Fatalf("changed: %+v", c)
		}
	}
}
