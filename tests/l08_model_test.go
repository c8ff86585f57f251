package tests

import (
	"fmt"
	"math/rand/v2"
	"slices"
	"strings"

	"loop.example/g00369/impl"
)

// The model tells chapter 8 a second time: what a message is, is what fmt prints of it (nil and empty lists alike), and a ledger holds how often each print is there.
type modelLedger map[string]int

func modelPrint(m impl.Msg) string {
	return fmt.Sprint(m)
}

func modelLedgerOf(ledger []impl.Msg) modelLedger {
	all := modelLedger{}
	for _, m := range ledger {
		all[modelPrint(m)]++
	}
	return all
}

var modelReplicas = map[int64]int64{1: 4, 2: 7}

// modelMsgKinds has for each kind its word and the letters of what it has: Slot, Value, Certs, Refs.
var modelMsgKinds = map[int64]struct {
	word string
	has  string
}{1: {"propose", "sv"}, 2: {"prepare", "sv"}, 3: {"commit", "sv"}, 4: {"change", "c"}, 5: {"new", "r"}}

// modelHas are the letters of what a message has, whether its kind has it or not.
func modelHas(m impl.Msg) string {
	letters := ""
	if m.Slot != 0 {
		letters += "s"
	}
	if m.Value != 0 {
		letters += "v"
	}
	return letters + strings.Repeat("c", min(len(m.Certs), 1)) + strings.Repeat("r", min(len(m.Refs), 1))
}

func modelNoReplica(f int64, id int64) bool {
	return id == 0 || modelOutside(id, modelReplicas[f])
}

func modelNoSlot(slot int64) bool {
	return slot == 0 || modelOutside(slot, 30)
}

// modelRises holds a list against what it is when it is sorted and no two are alike.
func modelRises(list []int64) bool {
	return slices.Equal(list, slices.Compact(slices.Sorted(slices.Values(list))))
}

func modelSlots(certs []impl.Cert) []int64 {
	var slots []int64
	for _, c := range certs {
		slots = append(slots, c.Slot)
	}
	return slots
}

func modelNoParts(m impl.Msg) bool {
	wrong := slices.ContainsFunc(m.Certs, func(c impl.Cert) bool {
		return modelNoSlot(c.Slot) || modelOutside(c.View, 20) || c.View >= m.View || modelOutside(c.Value, 12)
	})
	return wrong || slices.ContainsFunc(m.Refs, func(ref int64) bool { return modelOutside(ref, 239) })
}

func modelMsgFault(f int64, m impl.Msg) int64 {
	kind, known := modelMsgKinds[m.Kind]
	ofSlot := kind.has == "sv"
	asks := []struct {
		wrong bool
		code  int64
	}{
		{f != 1 && f != 2, impl.ErrRange},
		{!known || strings.Trim(modelHas(m), kind.has) != "", impl.ErrForm},
		{modelOutside(m.View, 20) || modelNoReplica(f, m.From), impl.ErrRange},
		{ofSlot && (modelNoSlot(m.Slot) || modelOutside(m.Value, 12)), impl.ErrRange},
		{len(m.Certs) >= 31 || int64(len(m.Refs)) > modelReplicas[f], impl.ErrMany},
		{!modelRises(modelSlots(m.Certs)) || !modelRises(m.Refs), impl.ErrForm},
		{modelNoParts(m), impl.ErrRange},
	}
	for _, ask := range asks {
		if ask.wrong {
			return ask.code
		}
	}
	return impl.OK
}

// modelRefersBeyond tells whether one of Refs is no place of so many messages.
func modelRefersBeyond(m impl.Msg, many int) bool {
	return len(m.Refs) > 0 && slices.Max(m.Refs) >= int64(many)
}

func modelLedgerFault(f int64, ledger []impl.Msg) int64 {
	if modelReplicas[f] == 0 {
		return impl.ErrRange
	}
	if len(ledger) >= 241 {
		return impl.ErrMany
	}
	seen := modelLedger{}
	for place, m := range ledger {
		if code := modelMsgFault(f, m); code != impl.OK {
			return code
		}
		if modelRefersBeyond(m, place) {
			return impl.ErrNone
		}
		if seen[modelPrint(m)]++; seen[modelPrint(m)] > 1 {
			return impl.ErrTaken
		}
	}
	return impl.OK
}

func modelPut(f int64, ledger []impl.Msg, m impl.Msg) impl.LedgerResult {
	code := modelLedgerFault(f, ledger)
	if code == impl.OK {
		code = modelMsgFault(f, m)
	}
	if code == impl.OK && modelRefersBeyond(m, len(ledger)) {
		code = impl.ErrNone
	}
	if code != impl.OK {
		return impl.LedgerResult{Code: code}
	}
	all := modelLedgerOf(ledger)
	all[modelPrint(m)]++
	switch {
	case len(all) == len(ledger):
		return impl.LedgerResult{Ledger: ledger}
	case len(all) > 240:
		return impl.LedgerResult{Code: impl.ErrMany}
	}
	return impl.LedgerResult{Ledger: slices.Concat(ledger, []impl.Msg{m})}
}

func modelSentBy(f int64, ledger []impl.Msg, from int64) impl.IntsResult {
	code := modelLedgerFault(f, ledger)
	if code == impl.OK && modelNoReplica(f, from) {
		code = impl.ErrRange
	}
	if code != impl.OK {
		return impl.IntsResult{Code: code}
	}
	places := map[int64][]int64{}
	for place, m := range ledger {
		places[m.From] = append(places[m.From], int64(place))
	}
	return impl.IntsResult{List: places[from]}
}

func modelMsgText(f int64, m impl.Msg) impl.TextResult {
	if code := modelMsgFault(f, m); code != impl.OK {
		return impl.TextResult{Code: code}
	}
	text := fmt.Sprintf("%s %d %d", modelMsgKinds[m.Kind].word, m.View, m.From)
	switch m.Kind {
	case 4:
		for _, c := range m.Certs {
			text += fmt.Sprintf(" %d.%d.%d", c.Slot, c.View, c.Value)
		}
	case 5:
		for _, ref := range m.Refs {
			text += fmt.Sprintf(" %d", ref)
		}
	default:
		text += fmt.Sprintf(" %d %d", m.Slot, m.Value)
	}
	return impl.TextResult{Text: text}
}

func modelSameMsgs(a impl.Msg, b impl.Msg) bool {
	return modelPrint(a) == modelPrint(b)
}

// msgCall holds what chapter 8 is asked with.
type msgCall struct {
	f      int64
	ledger []impl.Msg
	one    impl.Msg
	other  impl.Msg
	from   int64
}

// msgAnswers holds what chapter 8 says of one call.
type msgAnswers struct {
	fault       int64
	ledgerFault int64
	put         impl.LedgerResult
	sent        impl.IntsResult
	text        impl.TextResult
	same        bool
}

func programMsgs(c msgCall) msgAnswers {
	return msgAnswers{impl.MsgFault(c.f, c.one), impl.LedgerFault(c.f, c.ledger), impl.PutMsg(c.f, c.ledger, c.one), impl.SentBy(c.f, c.ledger, c.from), impl.MsgText(c.f, c.one), impl.SameMsgs(c.one, c.other)}
}

func modelMsgs(c msgCall) msgAnswers {
	return msgAnswers{modelMsgFault(c.f, c.one), modelLedgerFault(c.f, c.ledger), modelPut(c.f, c.ledger, c.one), modelSentBy(c.f, c.ledger, c.from), modelMsgText(c.f, c.one), modelSameMsgs(c.one, c.other)}
}

// equalMsgs is quicker than the model, for what is asked of many.
func equalMsgs(a impl.Msg, b impl.Msg) bool {
	heads := [...][5]int64{{a.Kind, a.View, a.From, a.Slot, a.Value}, {b.Kind, b.View, b.From, b.Slot, b.Value}}
	return heads[0] == heads[1] && slices.Equal(a.Certs, b.Certs) && slices.Equal(a.Refs, b.Refs)
}

func sameLedgers(a []impl.Msg, b []impl.Msg) bool {
	return slices.EqualFunc(a, b, equalMsgs)
}

func samePut(a impl.LedgerResult, b impl.LedgerResult) bool {
	return a.Code == b.Code && sameLedgers(a.Ledger, b.Ledger)
}

func sameInts(a impl.IntsResult, b impl.IntsResult) bool {
	return a.Code == b.Code && slices.Equal(a.List, b.List)
}

func sameMsgAnswers(a msgAnswers, b msgAnswers) bool {
	return a.fault == b.fault && a.ledgerFault == b.ledgerFault && samePut(a.put, b.put) && sameInts(a.sent, b.sent) && a.text == b.text && a.same == b.same
}

// drawnRising draws numbers below a bound that rise.
func drawnRising(r *rand.Rand, many int, bound int) []int64 {
	var list []int64
	for _, n := range r.Perm(bound)[:min(many, bound)] {
		list = append(list, int64(n))
	}
	slices.Sort(list)
	return list
}

func drawnCerts(r *rand.Rand, view int64) []impl.Cert {
	var certs []impl.Cert
	if view == 0 {
		return nil
	}
	for _, slot := range drawnRising(r, drawn(r, []int{0, 1, 2, 5, 29, 30}), 30) {
		certs = append(certs, impl.Cert{Slot: slot + 1, View: r.Int64N(view), Value: r.Int64N(13)})
	}
	return certs
}

// drawnMsg draws a message without a fault, whose Refs are places of so many.
func drawnMsg(r *rand.Rand, f int64, places int) impl.Msg {
	m := impl.Msg{Kind: 1 + r.Int64N(5), View: drawn(r, []int64{0, 1, 2, 9, 10, 19, 20}), From: 1 + r.Int64N(modelReplicas[f])}
	switch m.Kind {
	case 4:
		m.Certs = drawnCerts(r, m.View)
	case 5:
		m.Refs = drawnRising(r, r.IntN(int(modelReplicas[f])+1), places)
	default:
		m.Slot, m.Value = drawn(r, []int64{1, 2, 9, 10, 29, 30}), drawn(r, []int64{0, 1, 9, 10, 12})
	}
	return m
}

func drawnLedger(r *rand.Rand, f int64, many int) []impl.Msg {
	var ledger []impl.Msg
	seen := modelLedger{}
	for len(ledger) < many {
		m := drawnMsg(r, f, len(ledger))
		if seen[modelPrint(m)]++; seen[modelPrint(m)] == 1 {
			ledger = append(ledger, m)
		}
	}
	return ledger
}

// ownMsg lays the lists of a message where nothing else lies, with room behind them for whoever writes there.
func ownMsg(m impl.Msg) impl.Msg {
	m.Certs, m.Refs = roomy(m.Certs), roomy(m.Refs)
	return m
}

func ownLedger(ledger []impl.Msg) []impl.Msg {
	own := roomy(ledger)
	for i := range own {
		own[i] = ownMsg(own[i])
	}
	return own
}

// spoiltMsg turns one thing of a message, most often into a fault; what is handed in stays as it is.
func spoiltMsg(r *rand.Rand, m impl.Msg) impl.Msg {
	m = ownMsg(m)
	switch r.IntN(10) {
	case 0:
		m.Kind = r.Int64N(7)
	case 1:
		m.View = drawn(r, []int64{-1, 0, 1, 20, 21})
	case 2:
		m.From = drawn(r, []int64{-1, 0, 1, 4, 5, 7, 8})
	case 3:
		m.Slot = drawn(r, []int64{-1, 0, 1, 30, 31})
	case 4:
		m.Value = drawn(r, []int64{-1, 0, 1, 12, 13})
	case 5, 6, 7:
		m.Certs = spoiltCerts(r, m.Certs, m.View)
	case 8, 9:
		m.Refs = spoiltRefs(r, m.Refs)
	}
	return m
}

func spoiltCerts(r *rand.Rand, certs []impl.Cert, view int64) []impl.Cert {
	if len(certs) == 0 {
		return append(certs, impl.Cert{Slot: 1, View: view - 1, Value: 1})
	}
	c := &certs[r.IntN(len(certs))]
	switch r.IntN(6) {
	case 0:
		c.Slot = drawn(r, []int64{0, 1, 30, 31})
	case 1:
		c.View = drawn(r, []int64{-1, 0, view - 1, view})
	case 2:
		c.Value = drawn(r, []int64{-1, 0, 12, 13})
	case 3:
		certs = append(certs, certs[r.IntN(len(certs))])
	case 4:
		slices.Reverse(certs)
	case 5:
		certs = append(certs, make([]impl.Cert, 30)...)
	}
	return certs
}

func spoiltRefs(r *rand.Rand, refs []int64) []int64 {
	if len(refs) == 0 {
		return append(refs, 0)
	}
	switch r.IntN(4) {
	case 0:
		refs[r.IntN(len(refs))] = drawn(r, []int64{-1, 0, 1, 239, 240})
	case 1:
		refs = append(refs, refs[r.IntN(len(refs))])
	case 2:
		slices.Reverse(refs)
	case 3:
		refs = append(refs, 232, 233, 234, 235, 236, 237, 238, 239)[:len(refs)+1+r.IntN(8)]
	}
	return refs
}

// spoiltLedger turns one thing of a ledger, most often into a fault.
func spoiltLedger(r *rand.Rand, ledger []impl.Msg) []impl.Msg {
	ledger = ownLedger(ledger)
	if len(ledger) == 0 {
		return append(ledger, spoiltMsg(r, drawnMsg(r, 1, 1)))
	}
	i, j := r.IntN(len(ledger)), r.IntN(len(ledger))
	switch r.IntN(8) {
	case 0, 1, 2:
		ledger[i] = spoiltMsg(r, ledger[i])
	case 3:
		ledger = slices.Insert(ledger, i, ownMsg(ledger[j]))
	case 4:
		ledger[i], ledger[j] = ledger[j], ledger[i]
	case 5:
		ledger[i] = impl.Msg{Kind: 5, From: 1, Refs: []int64{drawn(r, []int64{int64(i) - 1, int64(i), int64(i) + 1})}}
	case 6:
		ledger = append(ledger, drawnLedger(r, 1, 241-len(ledger))...)
	case 7:
		ledger = slices.Delete(ledger, i, i+1)
	}
	return ledger
}

// drawnFineMsgs draws a call in which nothing has a fault.
func drawnFineMsgs(r *rand.Rand) msgCall {
	c := msgCall{f: 1 + r.Int64N(2)}
	c.ledger = drawnLedger(r, c.f, drawn(r, []int{0, 1, 2, 3, 5, 10, 10, 30, 60, 239, 240}))
	c.one, c.from = drawnMsg(r, c.f, len(c.ledger)), 1+r.Int64N(modelReplicas[c.f])
	if len(c.ledger) > 0 && r.IntN(3) == 0 {
		c.one = ownMsg(drawn(r, c.ledger))
	}
	c.other = ownMsg(c.one)
	return c
}

func drawnMsgCall(r *rand.Rand) msgCall {
	c := drawnFineMsgs(r)
	for range r.IntN(4) {
		switch r.IntN(12) {
		case 0:
			c.f = drawn(r, []int64{0, 1, 2, 3})
		case 1, 2:
			c.ledger = spoiltLedger(r, c.ledger)
		case 3, 4, 5:
			c.one = spoiltMsg(r, c.one)
		case 6, 7, 8:
			c.other = spoiltMsg(r, c.other)
		case 9:
			c.from = drawn(r, []int64{-1, 0, 4, 5, 7, 8})
		case 10:
			c.one = impl.Msg{Kind: 5, From: 1, Refs: []int64{int64(len(c.ledger)) + r.Int64N(3) - 1}}
		case 11:
			c.other = c.one
		}
	}
	return c
}
