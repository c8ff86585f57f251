package tests

import (
	"fmt"
	"math/rand/v2"
	"slices"
	"strings"

	"loop.example/g00369/impl"
)

// The model tells chapter 14 a second time: each Reply that somebody tells has a card with one box a replica, and who votes for it ticks its own box; a box that is ticked stays so, however often it is.
type modelCard struct {
	reply impl.Reply
	boxes [8]bool
}

// modelCards stand in the order in which their Replies are told first; it is asked of votes without a fault.
func modelCards(votes []impl.Vote) []modelCard {
	var cards []modelCard
	for _, v := range votes {
		at := slices.IndexFunc(cards, func(card modelCard) bool { return card.reply == v.Reply })
		if at < 0 {
			at = len(cards)
			cards = append(cards, modelCard{reply: v.Reply})
		}
		cards[at].boxes[v.From] = true
	}
	return cards
}

func (card modelCard) voters() []int64 {
	var voters []int64
	for id, ticked := range card.boxes {
		if ticked {
			voters = append(voters, int64(id))
		}
	}
	return voters
}

func modelVotesFault(f int64, votes []impl.Vote) int64 {
	return modelBroken(
		modelRule{impl.ErrRange, func() bool { return modelReplicas[f] == 0 }},
		modelRule{impl.ErrMany, func() bool { return len(votes) >= 41 }},
		modelRule{impl.ErrRange, func() bool {
			return slices.ContainsFunc(votes, func(v impl.Vote) bool { return modelNoReplica(f, v.From) || modelNoReply(v.Reply) })
		}},
	)
}

func modelVoters(f int64, votes []impl.Vote, r impl.Reply) impl.IntsResult {
	if code := modelVotesFault(f, votes); code != impl.OK {
		return noPlaces(code)
	}
	for _, card := range modelCards(votes) {
		if card.reply == r {
			return placesOf(card.voters()...)
		}
	}
	return placesOf()
}

func modelAccept(f int64, votes []impl.Vote) impl.ReplyResult {
	if code := modelVotesFault(f, votes); code != impl.OK {
		return noReply(code)
	}
	for _, card := range modelCards(votes) {
		if len(card.voters()) >= int(f)+1 {
			return impl.ReplyResult{Reply: card.reply}
		}
	}
	return noReply(impl.ErrSign)
}

func modelGatherC(c impl.Cluster, client int64, number int64) impl.VotesResult {
	if code := modelClusterFault(c); code != impl.OK {
		return noVotes(code)
	}
	var votes []impl.Vote
	book := modelBook(c)
	for _, one := range c.Replicas {
		if told := modelReply(book[one.Done], client, number); told.Code == impl.OK {
			votes = append(votes, voteOf(one.Id, told.Reply))
		}
	}
	return votesResult(votes...)
}

// modelAskC is told what modelGatherC tells.
func modelAskC(c impl.Cluster, gathered impl.VotesResult, lies []impl.Vote) impl.ReplyResult {
	code := modelFirst(
		func() int64 { return gathered.Code },
		func() int64 { return modelVotesFault(c.F, lies) },
		modelWhen(impl.ErrSign, func() bool {
			return slices.ContainsFunc(lies, func(v impl.Vote) bool { return slices.Contains(modelGood(c.F, c.Bad), v.From) })
		}),
	)
	if code != impl.OK {
		return noReply(code)
	}
	return modelAccept(c.F, slices.Concat(lies, gathered.Votes))
}

func modelReplyText(r impl.Reply) impl.TextResult {
	if modelNoReply(r) {
		return impl.TextResult{Code: impl.ErrRange}
	}
	text := fmt.Sprintf("code %d %d %s", r.Code, r.Value, r.Path)
	if r.Path == "" {
		text = strings.TrimSuffix(text, " ")
	}
	return impl.TextResult{Text: text}
}

// voteCall holds what chapter 14 is asked with.
type voteCall struct {
	f      int64
	votes  []impl.Vote
	r      impl.Reply
	c      impl.Cluster
	client int64
	number int64
	lies   []impl.Vote
}

// voteAnswers holds what chapter 14 says of one call.
type voteAnswers struct {
	fault    int64
	voters   impl.IntsResult
	accepted impl.ReplyResult
	gathered impl.VotesResult
	told     impl.ReplyResult
	text     impl.TextResult
}

func programVote(c voteCall) voteAnswers {
	return voteAnswers{impl.VotesFault(c.f, c.votes), impl.VotersFor(c.f, c.votes, c.r), impl.AcceptOf(c.f, c.votes), impl.GatherC(c.c, c.client, c.number), impl.AskC(c.c, c.client, c.number, c.lies), impl.ReplyText(c.r)}
}

func modelVote(c voteCall) voteAnswers {
	gathered := modelGatherC(c.c, c.client, c.number)
	return voteAnswers{modelVotesFault(c.f, c.votes), modelVoters(c.f, c.votes, c.r), modelAccept(c.f, c.votes), gathered, modelAskC(c.c, gathered, c.lies), modelReplyText(c.r)}
}

func voteOf(from int64, r impl.Reply) impl.Vote {
	return impl.Vote{From: from, Reply: r}
}

// sayings are votes with the same Reply.
func sayings(r impl.Reply, from ...int64) []impl.Vote {
	var votes []impl.Vote
	for _, id := range from {
		votes = append(votes, voteOf(id, r))
	}
	return votes
}

func votesResult(votes ...impl.Vote) impl.VotesResult {
	return impl.VotesResult{Votes: votes}
}

func noVotes(code int64) impl.VotesResult {
	return impl.VotesResult{Code: code}
}

func sameVotes(a impl.VotesResult, b impl.VotesResult) bool {
	return a.Code == b.Code && slices.Equal(a.Votes, b.Votes)
}

func sameVoteAnswers(a voteAnswers, b voteAnswers) bool {
	return a.fault == b.fault && sameInts(a.voters, b.voters) && a.accepted == b.accepted && sameVotes(a.gathered, b.gathered) && a.told == b.told && a.text == b.text
}

func (a voteAnswers) codes() [6]int64 {
	return [...]int64{a.fault, a.voters.Code, a.accepted.Code, a.gathered.Code, a.told.Code, a.text.Code}
}

// drawnVotes draws votes of the ids with one of the replies, so that many say the same.
func drawnVotes(r *rand.Rand, many int, ids []int64, replies []impl.Reply) []impl.Vote {
	var votes []impl.Vote
	for range many {
		votes = append(votes, voteOf(drawn(r, ids), drawn(r, replies)))
	}
	return votes
}

// drawnVoted draws what has no cluster: votes of few replies, and one that most often is among these.
func drawnVoted(r *rand.Rand) voteCall {
	c := voteCall{f: 1 + r.Int64N(2)}
	replies := drawnMany(r, 1+r.IntN(4), drawnReply)
	c.votes = drawnVotes(r, drawn(r, []int{0, 1, 2, 3, 5, 8, 39, 40}), firstOnes(modelReplicas[c.f]), replies)
	c.r = drawn(r, append(replies, drawnReply(r)))
	return c
}

// drawnFineVote draws a call in which nothing has a fault, most often of a request that one has done; who is bad most often tells what the others tell, or all the same thing.
func drawnFineVote(r *rand.Rand) voteCall {
	exec, c := drawnFineExec(r), drawnVoted(r)
	c.c, c.client, c.number = exec.c, exec.client, exec.number
	did := impl.ValuesC(c.c, drawn(r, c.c.Replicas).Id).List
	did = slices.DeleteFunc(did, func(value int64) bool { return value == 0 || int(value) > len(c.c.Requests) })
	if len(did) > 0 && r.IntN(4) > 0 {
		same := c.c.Requests[drawn(r, did)-1]
		c.client, c.number = same.Client, same.Number
	}
	replies := drawnMany(r, 1+r.IntN(3), drawnReply)
	for _, one := range c.c.Replicas[:r.IntN(2)] {
		replies = append(replies, impl.ReplyC(c.c, one.Id, c.client, c.number).Reply)
	}
	if len(c.c.Bad) > 0 {
		c.lies = drawnVotes(r, drawn(r, []int{0, 1, 1, 2, 3, 5, 8, 33, 36, 37, 38, 40}), c.c.Bad, replies)
	}
	return c
}

// spoiltReply turns one thing of a reply, most often into a fault.
func spoiltReply(r *rand.Rand, one impl.Reply) impl.Reply {
	switch r.IntN(3) {
	case 0:
		one.Code = drawn(r, []int64{-1, 0, 10, 11})
	case 1:
		one.Value = drawn(r, []int64{-2, -1, 9999, 10000})
	case 2:
		one.Path = strings.Repeat("x", 24+r.IntN(2))
	}
	return one
}

// spoiltVotes turns one thing of votes, most often into a fault; what is handed in stays as it is.
func spoiltVotes(r *rand.Rand, votes []impl.Vote) []impl.Vote {
	votes = slices.Clone(votes)
	if len(votes) == 0 {
		return drawnVotes(r, 1+r.IntN(41), firstOnes(4), drawnMany(r, 3, drawnReply))
	}
	at := r.IntN(len(votes))
	switch r.IntN(4) {
	case 0:
		votes[at].From = drawn(r, []int64{-1, 0, 1, 4, 5, 7, 8})
	case 1:
		return append(votes, drawnVotes(r, 41-len(votes), firstOnes(4), drawnMany(r, 3, drawnReply))...)
	default:
		votes[at].Reply = spoiltReply(r, votes[at].Reply)
	}
	return votes
}

// drawnVoteCall draws a call in which some is turned, most often into a fault.
func drawnVoteCall(r *rand.Rand) voteCall {
	c := drawnFineVote(r)
	for range r.IntN(4) {
		switch r.IntN(10) {
		case 0:
			c.f = drawn(r, []int64{0, 1, 2, 3})
		case 1, 2:
			c.votes = spoiltVotes(r, c.votes)
		case 3, 4:
			c.r = spoiltReply(r, c.r)
		case 5:
			c.c = spoiltCluster(r, c.c)
		case 6:
			c.client = drawn(r, []int64{-1, 0, 1, 9, 10})
		case 7:
			c.number = drawn(r, []int64{-1, 0, 1, 99, 100})
		case 8, 9:
			c.lies = spoiltVotes(r, c.lies)
		}
	}
	return c
}
