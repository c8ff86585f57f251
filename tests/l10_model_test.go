package tests

import (
	"cmp"
	"math/rand/v2"
	"slices"

	"loop.example/g00369/impl"
)

// The model tells chapter 10 a second time: changes are looked up sender by sender, certificates are sorted so that the newest of a slot stands first, and commits are looked up view by view, from the last one down.

// modelTold is the message of a kind at a place; false if there is none.
func modelTold(ledger []impl.Msg, at int64, kind int64) (impl.Msg, bool) {
	for place, m := range ledger {
		if int64(place) == at && m.Kind == kind {
			return m, true
		}
	}
	return impl.Msg{}, false
}

// modelRightChange asks of a ledger without a fault.
func modelRightChange(f int64, ledger []impl.Msg, at int64) bool {
	m, told := modelTold(ledger, at, 4)
	tally := modelTallyOf(ledger)
	lacks := func(c impl.Cert) bool { return !tally.enough(f, 2, c.View, c.Slot, c.Value) }
	return told && m.View >= 1 && !slices.ContainsFunc(m.Certs, lacks)
}

func modelChangeRight(f int64, ledger []impl.Msg, at int64) bool {
	return modelLedgerFault(f, ledger) == impl.OK && modelRightChange(f, ledger, at)
}

func modelChangesFor(f int64, ledger []impl.Msg, view int64) impl.IntsResult {
	code := modelLedgerFault(f, ledger)
	if code == impl.OK && modelOutside(view, 20) {
		code = impl.ErrRange
	}
	if code != impl.OK {
		return impl.IntsResult{Code: code}
	}
	var places []int64
	for id := range modelReplicas[f] {
		first := slices.IndexFunc(counting(len(ledger)), func(at int64) bool {
			return ledger[at].View == view && ledger[at].From == id+1 && modelRightChange(f, ledger, at)
		})
		if first >= 0 {
			places = append(places, int64(first))
		}
	}
	slices.Sort(places)
	return impl.IntsResult{List: places[:min(len(places), modelNeeds[f])]}
}

// modelRightNew asks of a ledger without a fault.
func modelRightNew(f int64, ledger []impl.Msg, at int64) bool {
	m, told := modelTold(ledger, at, 5)
	if !told || m.View == 0 || len(m.Refs) < modelNeeds[f] || modelPrimary(f, m.View).Value != m.From {
		return false
	}
	changed := map[int64]int{}
	for _, ref := range m.Refs {
		if changed[ledger[ref].From]++; ledger[ref].View != m.View || !modelRightChange(f, ledger, ref) {
			return false
		}
	}
	return len(changed) == len(m.Refs)
}

func modelNewRight(f int64, ledger []impl.Msg, at int64) bool {
	return modelLedgerFault(f, ledger) == impl.OK && modelRightNew(f, ledger, at)
}

// modelTaken asks of places of changes.
func modelTaken(ledger []impl.Msg, refs []int64) []int64 {
	var all []impl.Cert
	for _, ref := range refs {
		all = append(all, ledger[ref].Certs...)
	}
	slices.SortStableFunc(all, func(a impl.Cert, b impl.Cert) int {
		return cmp.Or(cmp.Compare(a.Slot, b.Slot), cmp.Compare(b.View, a.View))
	})
	all = slices.CompactFunc(all, func(a impl.Cert, b impl.Cert) bool { return a.Slot == b.Slot })
	if len(all) == 0 {
		return nil
	}
	values := make([]int64, all[len(all)-1].Slot)
	for _, c := range all {
		values[c.Slot-1] = c.Value
	}
	return values
}

func modelPick(f int64, ledger []impl.Msg, refs []int64) impl.IntsResult {
	code := modelLedgerFault(f, ledger)
	if code == impl.OK && int64(len(refs)) > modelReplicas[f] {
		code = impl.ErrMany
	}
	for _, ref := range refs {
		if _, told := modelTold(ledger, ref, 4); code == impl.OK && !told {
			code = impl.ErrNone
		}
	}
	if code != impl.OK {
		return impl.IntsResult{Code: code}
	}
	return impl.IntsResult{List: modelTaken(ledger, refs)}
}

func modelProposeRight(f int64, ledger []impl.Msg, place int64, start int64) bool {
	if modelLedgerFault(f, ledger) != impl.OK {
		return false
	}
	m, told := modelTold(ledger, place, 1)
	if !told || m.From != modelPrimary(f, m.View).Value {
		return false
	}
	var values []int64
	if m.View > 0 {
		begin, begun := modelTold(ledger, start, 5)
		if !begun || begin.View != m.View || !modelRightNew(f, ledger, start) {
			return false
		}
		values = modelTaken(ledger, begin.Refs)
	} else if start != -1 {
		return false
	}
	if int64(len(values)) >= m.Slot {
		return values[m.Slot-1] == m.Value
	}
	return m.Value >= 1
}

func modelCertsOf(f int64, ledger []impl.Msg, id int64, view int64) impl.CertsResult {
	code := modelLedgerFault(f, ledger)
	if code == impl.OK && (modelNoReplica(f, id) || modelOutside(view, 20)) {
		code = impl.ErrRange
	}
	if code != impl.OK {
		return impl.CertsResult{Code: code}
	}
	var list []impl.Cert
	for slot := int64(1); slot <= 30; slot++ {
		for below := view - 1; below >= 0; below-- {
			first := slices.IndexFunc(ledger, func(m impl.Msg) bool {
				return m.Kind == 3 && m.From == id && m.Slot == slot && m.View == below
			})
			if first >= 0 {
				list = append(list, cert(slot, below, ledger[first].Value))
				break
			}
		}
	}
	return impl.CertsResult{Certs: list}
}

// viewCall holds what chapter 10 is asked with; change and begin are the places of ChangeRight and of NewRight.
type viewCall struct {
	f      int64
	ledger []impl.Msg
	change int64
	begin  int64
	view   int64
	refs   []int64
	place  int64
	start  int64
	id     int64
}

// viewAnswers holds what chapter 10 says of one call.
type viewAnswers struct {
	change  bool
	changes impl.IntsResult
	begin   bool
	pick    impl.IntsResult
	propose bool
	certs   impl.CertsResult
}

func programView(c viewCall) viewAnswers {
	return viewAnswers{impl.ChangeRight(c.f, c.ledger, c.change), impl.ChangesFor(c.f, c.ledger, c.view), impl.NewRight(c.f, c.ledger, c.begin), impl.PickOf(c.f, c.ledger, c.refs), impl.ProposeRight(c.f, c.ledger, c.place, c.start), impl.CertsOf(c.f, c.ledger, c.id, c.view)}
}

func modelView(c viewCall) viewAnswers {
	return viewAnswers{modelChangeRight(c.f, c.ledger, c.change), modelChangesFor(c.f, c.ledger, c.view), modelNewRight(c.f, c.ledger, c.begin), modelPick(c.f, c.ledger, c.refs), modelProposeRight(c.f, c.ledger, c.place, c.start), modelCertsOf(c.f, c.ledger, c.id, c.view)}
}

func sameCerts(a impl.CertsResult, b impl.CertsResult) bool {
	return a.Code == b.Code && slices.Equal(a.Certs, b.Certs)
}

func sameViews(a viewAnswers, b viewAnswers) bool {
	return a.change == b.change && sameInts(a.changes, b.changes) && a.begin == b.begin && sameInts(a.pick, b.pick) && a.propose == b.propose && sameCerts(a.certs, b.certs)
}

// viewsDrawn grows a ledger without a fault, of up to 240 messages, that goes through several views.
type viewsDrawn struct {
	r      *rand.Rand
	f      int64
	ledger []impl.Msg
	seen   modelLedger
}

func (d *viewsDrawn) take(list ...impl.Msg) {
	for _, m := range list {
		if d.seen[modelPrint(m)]++; d.seen[modelPrint(m)] == 1 && len(d.ledger) < 240 {
			d.ledger = append(d.ledger, m)
		}
	}
}

// vote draws some slots of a view that are prepared, most often by enough, and committed by some; at times one has two values.
func (d *viewsDrawn) vote(view int64) {
	for range d.r.IntN(5) {
		slot, value := drawn(d.r, []int64{1, 2, 2, 3, 5, 30}), drawn(d.r, []int64{0, 1, 5, 12})
		d.take(prepares(view, slot, value, drawnVoters(d.r, d.f)...)...)
		d.take(commits(view, slot, value, drawnVoters(d.r, d.f)...)...)
	}
}

// certsBelow draws certificates of views below, most often such as enough have prepared.
func (d *viewsDrawn) certsBelow(view int64) []impl.Cert {
	tally := modelTallyOf(d.ledger)
	bySlot := map[int64]impl.Cert{}
	for _, i := range d.r.Perm(len(d.ledger)) {
		m := d.ledger[i]
		right := tally.enough(d.f, 2, m.View, m.Slot, m.Value)
		if m.Kind == 2 && m.View < view && (right || d.r.IntN(60) == 0) && d.r.IntN(3) > 0 {
			bySlot[m.Slot] = cert(m.Slot, m.View, m.Value)
		}
	}
	var list []impl.Cert
	for slot := int64(1); slot <= 30; slot++ {
		if c, there := bySlot[slot]; there && d.r.IntN(4) > 0 {
			list = append(list, c)
		}
	}
	return list
}

// change draws changes to a view, some of one replica twice.
func (d *viewsDrawn) change(view int64) {
	for _, id := range append(drawnVoters(d.r, d.f), drawnVoters(d.r, d.f)[:1]...) {
		d.take(changing(view, id, d.certsBelow(view)...))
	}
}

func (d *viewsDrawn) placesWith(is func(m impl.Msg) bool) []int64 {
	return slices.DeleteFunc(counting(len(d.ledger)), func(at int64) bool { return !is(d.ledger[at]) })
}

// refs draws places of changes to a view, most often of each sender one.
func (d *viewsDrawn) refs(view int64) []int64 {
	places := d.placesWith(func(m impl.Msg) bool { return m.Kind == 4 && m.View == view })
	if d.r.IntN(6) > 0 {
		places = slices.DeleteFunc(places, func(at int64) bool {
			return !modelRightChange(d.f, d.ledger, at)
		})
	}
	d.r.Shuffle(len(places), func(i int, j int) { places[i], places[j] = places[j], places[i] })
	if d.r.IntN(6) > 0 {
		changed := map[int64]int{}
		places = slices.DeleteFunc(places, func(at int64) bool {
			changed[d.ledger[at].From]++
			return changed[d.ledger[at].From] > 1
		})
	}
	return places[:min(len(places), int(drawn(d.r, []int64{2 * d.f, 2*d.f + 1, 3*d.f + 1, 3*d.f + 1})))]
}

// begin draws a MsgNew and what is proposed behind it, most often what is taken over.
func (d *viewsDrawn) begin(view int64) {
	primary := modelPrimary(d.f, view).Value
	if d.r.IntN(8) == 0 {
		primary = 1 + d.r.Int64N(modelReplicas[d.f])
	}
	refs := d.refs(view)
	slices.Sort(refs)
	d.take(beginning(view, primary, refs...))
	for at, value := range modelTaken(d.ledger, refs) {
		if d.r.IntN(5) == 0 {
			value = drawn(d.r, []int64{0, 1, 5, 12})
		}
		if d.r.IntN(5) > 0 {
			d.take(said(1, view, primary, int64(at)+1, value))
		}
	}
	d.take(said(1, view, primary, drawn(d.r, []int64{4, 6, 30}), drawn(d.r, []int64{0, 1, 12})))
}

// drawnViews draws a ledger of a few views, in each of which some is proposed, prepared and committed; at times many others stand behind them.
func drawnViews(r *rand.Rand, f int64) []impl.Msg {
	d := viewsDrawn{r: r, f: f, seen: modelLedger{}}
	views := drawn(r, [][]int64{{}, {0}, {0, 1}, {0, 1, 2}, {0, 1, 3, 20}, {1, 2}, {4, 0, 7}, {0, 0, 5}})
	for _, view := range views {
		d.take(drawnMsg(r, f, len(d.ledger)))
		if view > 0 {
			d.change(view)
			d.begin(view)
		} else {
			d.take(said(1, 0, drawn(r, []int64{1, 1, 2}), 1+r.Int64N(30), r.Int64N(3)))
		}
		d.vote(view)
	}
	if r.IntN(15) == 0 {
		for len(d.ledger) < 240 {
			d.take(drawnMsg(r, f, len(d.ledger)))
		}
	}
	return d.ledger
}

// drawnPlace draws the place of one of a kind, if there is one.
func drawnPlace(r *rand.Rand, ledger []impl.Msg, kind int64) int64 {
	for _, at := range r.Perm(len(ledger)) {
		if ledger[at].Kind == kind {
			return int64(at)
		}
	}
	return -1
}

// drawnFineView draws a call in which nothing has a fault; what is asked for is most often there.
func drawnFineView(r *rand.Rand) viewCall {
	c := viewCall{f: 1 + r.Int64N(2)}
	c.ledger = drawnViews(r, c.f)
	d := viewsDrawn{r: r, f: c.f, ledger: c.ledger}
	c.change, c.begin, c.place, c.start = drawnPlace(r, c.ledger, 4), drawnPlace(r, c.ledger, 5), drawnPlace(r, c.ledger, 1), -1
	c.view, c.id = drawn(r, []int64{0, 1, 2, 3, 4, 5, 7, 20}), 1+r.Int64N(modelReplicas[c.f])
	if c.change >= 0 && r.IntN(4) > 0 {
		c.view = c.ledger[c.change].View
	}
	if c.place >= 0 {
		of := c.ledger[c.place].View
		for _, at := range d.placesWith(func(m impl.Msg) bool { return m.Kind == 5 && m.View == of && of > 0 }) {
			c.start = at
		}
	}
	c.refs = d.refs(c.view)
	return c
}

// drawnViewCall draws a call in which some is turned, most often into a fault.
func drawnViewCall(r *rand.Rand) viewCall {
	c := drawnFineView(r)
	many := int64(len(c.ledger))
	for range r.IntN(4) {
		at := drawn(r, []int64{-2, -1, 0, many - 1, many, many + 1, r.Int64N(many + 1)})
		switch r.IntN(12) {
		case 0:
			c.f = drawn(r, []int64{0, 1, 2, 3})
		case 1, 2:
			c.ledger = spoiltLedger(r, c.ledger)
		case 3:
			c.change = at
		case 4:
			c.begin = at
		case 5:
			c.place = at
		case 6:
			c.start = at
		case 7, 8:
			c.refs = append(slices.Clone(c.refs), at)
		case 9:
			c.refs = slices.Repeat(c.refs, 2)
		case 10:
			c.view = drawn(r, []int64{-1, 0, 1, 20, 21})
		case 11:
			c.id = drawn(r, []int64{-1, 0, 1, 4, 5, 7, 8})
		}
	}
	return c
}
