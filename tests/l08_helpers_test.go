package tests

import (
	"fmt"
	"maps"
	"slices"
	"strconv"
	"strings"
	"testing"

	"loop.example/g01133/impl"
)

// deedWords are the words of all kinds of deeds, and deedNumbers tell how many numbers their texts mention.
var (
	deedWords   = []string{"", "put", "save", "crash", "offer", "ask", "deliver", "copy", "drop", "sweep"}
	deedNumbers = []int{0, 2, 1, 1, 3, 2, 1, 1, 1, 1}
)

// deed returns a deed, valid or not.
func deed(kind, a, b, c int64) impl.Deed { return impl.Deed{Kind: kind, A: a, B: b, C: c} }

// deeds returns the deeds with texts that are separated by ";", without ReadDeed; "3*save 0" is the same one three times.
func deeds(text string) []impl.Deed {
	var made []impl.Deed
	for _, one := range strings.Split(text, ";") {
		one = strings.TrimSpace(one)
		times := 1
		if count, same, found := strings.Cut(one, "*"); found {
			times, _ = strconv.Atoi(count)
			one = same
		}
		words := append(strings.Fields(one), "0", "0", "0")
		if one == "" {
			continue
		}
		kind := slices.Index(deedWords, words[0])
		if kind < 1 {
			panic("no deed: " + one)
		}
		var numbers []int64
		for _, word := range words[1:4] {
			n, _ := strconv.ParseInt(word, 10, 64)
			numbers = append(numbers, n)
		}
		made = append(made, slices.Repeat([]impl.Deed{deed(int64(kind), numbers[0], numbers[1], numbers[2])}, times)...)
	}
	return made
}

// deedLine returns the text of a valid deed, without DeedText.
func deedLine(d impl.Deed) string {
	numbers := []int64{d.A, d.B, d.C}[:deedNumbers[d.Kind]]
	return deedWords[d.Kind] + " " + strings.Trim(fmt.Sprint(numbers), "[]")
}

// deedLines returns the texts of valid deeds, as deeds reads them.
func deedLines(list []impl.Deed) string {
	var lines []string
	for _, d := range list {
		lines = append(lines, deedLine(d))
	}
	return strings.Join(lines, "; ")
}

// depot returns a depot, valid or not.
func depot(servers, names int64, words ...impl.Grammar) impl.Depot {
	return impl.Depot{Servers: servers, Names: names, Words: words}
}

// box is a chest, with its nodes by their addresses.
type box struct {
	next           int64
	nodes          map[int64]impl.Node
	heads, pending []impl.Head
}

func (b box) copied() box {
	return box{b.next, maps.Clone(b.nodes), slices.Clone(b.heads), slices.Clone(b.pending)}
}

// boxOf returns the box of a chest.
func boxOf(c impl.Chest) box {
	b := box{c.Next, map[int64]impl.Node{}, c.Heads, c.Pending}
	for _, node := range c.Nodes {
		b.nodes[node.At] = node
	}
	return b
}

// chest returns the chest of a box.
func (b box) chest() impl.Chest {
	c := impl.Chest{Next: b.next, Heads: b.heads, Pending: b.pending}
	for _, at := range slices.Sorted(maps.Keys(b.nodes)) {
		c.Nodes = append(c.Nodes, b.nodes[at])
	}
	return c
}

// reachedFrom returns the addresses that are reached from heads, whether their nodes are there or not.
func (b box) reachedFrom(heads ...impl.Head) map[int64]bool {
	met := map[int64]bool{}
	var left []int64
	for _, h := range heads {
		if h.Version > 0 && h.At >= 0 {
			left = append(left, h.At)
		}
	}
	for len(left) > 0 {
		at := left[0]
		left = left[1:]
		if node, there := b.nodes[at]; there && !met[at] && node.Letter == "" {
			left = append(left, node.Left, node.Right)
		}
		met[at] = true
	}
	return met
}

// missingFrom returns the addresses that are reached from heads and are not there, in ascending order.
func (b box) missingFrom(heads ...impl.Head) []int64 {
	var missing []int64
	for _, at := range slices.Sorted(maps.Keys(b.reachedFrom(heads...))) {
		if _, there := b.nodes[at]; !there {
			missing = append(missing, at)
		}
	}
	return missing
}

// grammarOf returns the grammar of a head, before it is trimmed: its nodes taken apart, each of them as soon as those
// that it is made of are there.
func (b box) grammarOf(h impl.Head) impl.Grammar {
	var g impl.Grammar
	var order []int64
	var meet func(at int64) int
	meet = func(at int64) int {
		if number := slices.Index(order, at); number >= 0 {
			return number
		}
		node, there := b.nodes[at]
		rule := letter(node.Letter)
		if there && node.Letter == "" {
			left := meet(node.Left)
			rule = pair(left, meet(node.Right))
		}
		order, g.Rules = append(order, at), append(g.Rules, rule)
		return last(g)
	}
	if h.Version > 0 && h.At >= 0 {
		meet(h.At)
	}
	return g
}

// world is a store done plainly.
type world struct {
	depot  impl.Depot
	chests []box
	saved  []box
	wire   []impl.Mail
}

// worldOf returns the world in which nothing has been done yet.
func worldOf(d impl.Depot) world {
	w := world{depot: d}
	for range d.Servers {
		empty := box{0, map[int64]impl.Node{}, make([]impl.Head, d.Names), make([]impl.Head, d.Names)}
		w.chests, w.saved = append(w.chests, empty), append(w.saved, empty.copied())
	}
	return w
}

func (w world) copied() world {
	w.chests, w.saved, w.wire = slices.Clone(w.chests), slices.Clone(w.saved), slices.Clone(w.wire)
	for k := range w.chests {
		w.chests[k], w.saved[k] = w.chests[k].copied(), w.saved[k].copied()
	}
	return w
}

// store returns the world as StoreAfter should.
func (w world) store() impl.Store {
	s := impl.Store{Wire: w.wire}
	for k := range w.chests {
		s.Shops = append(s.Shops, impl.Shop{Chest: w.chests[k].chest(), Saved: w.saved[k].chest()})
	}
	return s
}

// after returns the world behind deeds, and their codes.
func (w world) after(list []impl.Deed) (world, []int64) {
	w = w.copied()
	var codes []int64
	for _, d := range list {
		codes = append(codes, w.do(d))
	}
	return w, codes
}

// do does a deed as the table of chapter 8 tells, and nothing at all if it returns an error.
func (w *world) do(d impl.Deed) int64 {
	servers, names, mails := w.depot.Servers, w.depot.Names, int64(len(w.wire))
	switch d.Kind {
	case impl.DdPut:
		if d.A >= names || d.B >= int64(len(w.depot.Words)) {
			return impl.ErrRange
		}
		return w.put(d.A, w.depot.Words[d.B])
	case impl.DdSave, impl.DdCrash, impl.DdSweep:
		if d.A >= servers {
			return impl.ErrRange
		}
		w.work(d.Kind, d.A)
	case impl.DdOffer, impl.DdAsk:
		if d.A >= servers || d.B >= servers || d.A == d.B || d.C >= names {
			return impl.ErrRange
		}
		return w.send(d)
	case impl.DdDeliver, impl.DdCopy, impl.DdDrop:
		if d.A >= mails {
			return impl.ErrRange
		}
		m := w.wire[d.A]
		if d.Kind != impl.DdCopy {
			w.wire = slices.Delete(w.wire, int(d.A), int(d.A)+1)
		}
		if d.Kind != impl.DdDrop {
			w.comesIn(m)
		}
	}
	return impl.OK
}

// find returns the least address of a node in a box that is what another one is.
func (b box) find(want impl.Node) (int64, bool) {
	for _, at := range slices.Sorted(maps.Keys(b.nodes)) {
		want.At = at
		if b.nodes[at] == want {
			return at, true
		}
	}
	return 0, false
}

// put puts a word, searching all nodes for each of its rules.
func (w *world) put(name int64, g impl.Grammar) int64 {
	owner := name % w.depot.Servers
	b := w.chests[owner].copied()
	places := []int64{-1}
	for _, rule := range trimmed(g).Rules {
		want := impl.Node{Letter: rule.Letter}
		if rule.Letter == "" {
			want.Left, want.Right = places[rule.Left+1], places[rule.Right+1]
		}
		at, found := b.find(want)
		if !found {
			if len(b.nodes) >= impl.MaxNodes || b.next == impl.MaxAddress {
				return impl.ErrLimit
			}
			at = owner*impl.MaxAddress + b.next
			want.At = at
			b.next++
			b.nodes[at] = want
		}
		places = append(places, at)
	}
	b.heads[name] = impl.Head{Version: b.heads[name].Version + 1, At: places[len(places)-1]}
	w.chests[owner] = b
	return impl.OK
}

// work saves, crashes or sweeps a server.
func (w *world) work(kind, server int64) {
	switch kind {
	case impl.DdSave:
		w.saved[server] = w.chests[server].copied()
	case impl.DdCrash:
		w.chests[server] = w.saved[server].copied()
	case impl.DdSweep:
		b := w.chests[server]
		met := b.reachedFrom(append(slices.Clone(b.heads), b.pending...)...)
		maps.DeleteFunc(b.nodes, func(at int64, _ impl.Node) bool { return !met[at] })
	}
}

// send offers or asks.
func (w *world) send(d impl.Deed) int64 {
	m := impl.Mail{Kind: impl.MlOffer, From: d.A, To: d.B}
	if d.Kind == impl.DdOffer {
		m.Name, m.Head = d.C, w.saved[d.A].heads[d.C]
		if m.Head.Version == 0 {
			return impl.ErrState
		}
	} else {
		missing := w.chests[d.A].missingFrom(w.chests[d.A].pending...)
		if len(missing) == 0 {
			return impl.ErrState
		}
		m.Kind, m.List = impl.MlAsk, missing[:min(impl.MaxAsk, len(missing))]
	}
	if len(w.wire) == impl.MaxWire {
		return impl.ErrLimit
	}
	w.wire = append(w.wire, m)
	return impl.OK
}

// comesIn lets a mail come in, and completes Pending heads, at whatever server they are.
func (w *world) comesIn(m impl.Mail) {
	b := &w.chests[m.To]
	switch m.Kind {
	case impl.MlOffer:
		if m.Head.Version > b.heads[m.Name].Version && m.Head.Version > b.pending[m.Name].Version {
			b.pending[m.Name] = m.Head
		}
	case impl.MlAsk:
		answer := impl.Mail{Kind: impl.MlNodes, From: m.To, To: m.From}
		for _, at := range slices.Sorted(maps.Keys(w.saved[m.To].nodes)) {
			if slices.Contains(m.List, at) {
				answer.Nodes = append(answer.Nodes, w.saved[m.To].nodes[at])
			}
		}
		if len(answer.Nodes) > 0 && len(w.wire) < impl.MaxWire {
			w.wire = append(w.wire, answer)
		}
	case impl.MlNodes:
		for _, node := range m.Nodes {
			if _, there := b.nodes[node.At]; !there {
				b.nodes[node.At] = node
			}
		}
	}
	for k := range w.chests {
		for name, head := range w.chests[k].pending {
			if head.Version > 0 && len(w.chests[k].missingFrom(head)) == 0 {
				w.chests[k].heads[name], w.chests[k].pending[name] = head, impl.Head{}
			}
		}
	}
}

// versions returns the versions of a name at all servers.
func (w world) versions(name int64) []int64 {
	var list []int64
	for _, b := range w.chests {
		list = append(list, b.heads[name].Version)
	}
	return list
}

// spread returns the deeds that SpreadDeeds should return behind so many others, and its code.
func (w world) spread(before int, name int64) ([]impl.Deed, int64) {
	w = w.copied()
	owner := name % w.depot.Servers
	if w.chests[owner].heads[name].Version == 0 {
		return nil, impl.ErrNotFound
	}
	for _, b := range w.chests {
		for other, head := range b.pending {
			if int64(other) != name && head.Version > 0 {
				return nil, impl.ErrState
			}
		}
	}
	var plan []impl.Deed
	also := func(text string, numbers ...any) {
		for _, d := range deeds(fmt.Sprintf(text, numbers...)) {
			w.do(d)
			plan = append(plan, d)
		}
	}
	for range w.wire {
		also("drop 0")
	}
	also("save %d", owner)
	for b := range w.chests {
		if w.chests[b].heads[name].Version >= w.chests[owner].heads[name].Version {
			continue
		}
		also("offer %d %d %d; deliver 0", owner, b, name)
		for w.chests[b].pending[name].Version > 0 && len(plan) <= impl.MaxDeeds {
			also("ask %d %d; deliver 0; deliver 0", b, owner)
		}
		also("save %d", b)
	}
	if before+len(plan) > impl.MaxDeeds {
		return nil, impl.ErrLimit
	}
	return plan, impl.OK
}

// storesAlike holds what StoreAfter returns, field by field, against a world.
func storesAlike(t *testing.T, d impl.Depot, list []impl.Deed, w world, done int) impl.Store {
	t.Helper()
	s, count, code := impl.StoreAfter(d, list)
	got, want := fmt.Sprintf("%+v", s), fmt.Sprintf("%+v", w.store())
	if got != want || count != int64(done) || code != impl.OK {
		t.Errorf("StoreAfter of %.900s: got %.2000s, %d and the code %d, want %.2000s and %d", deedLines(list), got, count, code, want, done)
	}
	return s
}

// blocks returns the halved grammar of so many different words of four letters, one behind the other.
func blocks(count int) impl.Grammar {
	w := ""
	for k := range count {
		for _, digit := range []int{64, 16, 4, 1} {
			w += "abcd"[k*37%256/digit%4:][:1]
		}
	}
	g, _ := halvedBy(w)
	return g
}

// someDepots returns valid depots of all kinds.
func someDepots() []impl.Depot {
	small := []impl.Grammar{gram(example), {}, gram("a\nb\n0 1\n"), gram("d\n"), gram("a\nb\n1 0\n0 2\n2 3\n"), gram("a\na\n0 1\nb\n1 0\n4 2\n"), gram("c\nb\n0 0\n2 1\n2 3\nd\n"), plainBy("abcdbcda")}
	long := []impl.Grammar{fullGrammar(), fibonacci(), blocks(33), doubled(gram(example), 40), mixedGrammar(60, 1<<40, 3), {}, trimmed(mixedGrammar(90, 1<<30, 8)), gram("c\n")}
	return []impl.Depot{
		depot(2, 2, small...), depot(3, 4, small[:5]...), depot(4, 4, small...), depot(4, 1, small[2:]...), depot(3, 2, long...), depot(2, 1, small[0], small[4]),
		depot(2, 4, long[2], small[0], long[6], small[2]), depot(4, 3, small[0], small[5], long[0], long[1]), depot(1, 4, small...), depot(1, 1, small[0]), depot(4, 4), depot(2, 3, long[2:]...),
	}
}

// drawn draws deeds for a world that goes on with them.
type drawn struct {
	world
	next func(n int) int
	// mood has the first letters of deeds, "l" for deliver, "w" for sweep and "x" for copy: as many as they are drawn often.
	mood string
	list []impl.Deed
	// words tell what the owner of a name has put at a version of it last.
	words map[version]int64
	codes []int64
}

// version is a version of a name.
type version struct{ name, number int64 }

func drawing(d impl.Depot, seed int) *drawn {
	state := uint64(seed)
	next := func(n int) int {
		state = state*6364136223846793005 + 1442695040888963407
		return int(state>>33) % n
	}
	moods := []string{"ppppppppsssssscwddddxxxxxxooooooooooooooooooaaaaaaaaaaaaaaaaaalllllllllllllllllll", "ppsssxxooooooooaaaaaaaaal", "pppssssscccwwooooaaaallllllll"}
	return &drawn{world: worldOf(d), next: next, mood: moods[next(len(moods))], words: map[version]int64{}}
}

// also does a further deed.
func (w *drawn) also(d impl.Deed) {
	code := w.do(d)
	if d.Kind == impl.DdPut && code == impl.OK {
		owner := d.A % w.depot.Servers
		w.words[version{d.A, w.chests[owner].heads[d.A].Version}] = d.B
	}
	w.list, w.codes = append(w.list, d), append(w.codes, code)
}

// done tells how many deeds have been done.
func (w *drawn) done() int {
	n := 0
	for _, code := range w.codes {
		if code == impl.OK {
			n++
		}
	}
	return n
}

// number returns a number less than count, and seldom one that is not.
func (w *drawn) number(count int) int64 {
	if count == 0 || w.next(12) == 0 {
		return int64(count + w.next(3))
	}
	return int64(w.next(count))
}

// candidate returns a deed that may be refused.
func (w *drawn) candidate() impl.Deed {
	servers, names, mails := int(w.depot.Servers), int(w.depot.Names), len(w.wire)
	switch w.mood[w.next(len(w.mood))] {
	case 'p':
		return deed(impl.DdPut, w.number(names), w.number(len(w.depot.Words)), 0)
	case 's':
		return deed(impl.DdSave, w.number(servers), 0, 0)
	case 'c':
		return deed(impl.DdCrash, w.number(servers), 0, 0)
	case 'w':
		return deed(impl.DdSweep, w.number(servers), 0, 0)
	case 'd':
		return deed(impl.DdDrop, w.number(mails), 0, 0)
	case 'x':
		return deed(impl.DdCopy, w.number(mails), 0, 0)
	case 'o':
		return deed(impl.DdOffer, w.number(servers), w.number(servers), w.number(names))
	case 'a':
		return deed(impl.DdAsk, w.number(servers), w.number(servers), 0)
	}
	return deed(impl.DdDeliver, w.number(mails), 0, 0)
}

// draw draws one deed, which is seldom refused, or several that belong together.
func (w *drawn) draw() {
	if w.next(8) == 0 {
		w.drawExchange()
		return
	}
	for {
		d, tried := w.candidate(), w.copied()
		if tried.do(d) == impl.OK || w.next(12) == 0 {
			w.also(d)
			return
		}
	}
}

// drawExchange lets a server that is missing something ask another one, and both mails come in.
func (w *drawn) drawExchange() {
	asker := w.number(int(w.depot.Servers))
	for k, b := range w.chests {
		if len(b.missingFrom(b.pending...)) > 0 && w.next(2) == 0 {
			asker = int64(k)
		}
	}
	w.also(deed(impl.DdAsk, asker, w.number(int(w.depot.Servers)), 0))
	if last := int64(len(w.wire)) - 1; last >= 0 {
		w.also(deed(impl.DdDeliver, last, 0, 0))
		w.also(deed(impl.DdDeliver, last, 0, 0))
	}
}

// drawnLists returns depots with drawn lists of so many deeds for them.
func drawnLists(seeds, count int) []*drawn {
	var lists []*drawn
	depots := someDepots()
	for seed := range seeds {
		w := drawing(depots[seed%len(depots)], seed*7561+11)
		for len(w.list) < count {
			w.draw()
		}
		lists = append(lists, w)
	}
	return lists
}
