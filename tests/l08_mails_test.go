package tests

import (
	"fmt"
	"slices"
	"strings"
	"testing"

	"loop.example/g01133/impl"
)

// behind returns the store behind deeds all of which have to be done, held against the plain one.
func behind(t *testing.T, d impl.Depot, text string) impl.Store {
	t.Helper()
	list := deeds(text)
	w, codes := worldOf(d).after(list)
	if k := slices.IndexFunc(codes, func(code int64) bool { return code != impl.OK }); k >= 0 {
		t.Errorf("%s of %s is refused: %d", deedLine(list[k]), text, codes[k])
	}
	return storesAlike(t, d, list, w, len(list))
}

// refuses checks that the last one of some deeds is refused by an error, and changes nothing.
func refuses(t *testing.T, d impl.Depot, text string, code int64) {
	t.Helper()
	list := deeds(text)
	behind(t, d, deedLines(list[:len(list)-1]))
	at, bad, ok := impl.RefusedDeed(d, list)
	is(t, "RefusedDeed of "+text, fmt.Sprint(len(list)-1, " ", code, " 0"), at, bad, ok)
	w, _ := worldOf(d).after(list)
	storesAlike(t, d, list, w, len(list)-1)
}

// chestIs checks the chest of a server: Next, the nodes, the heads and the Pending heads.
func chestIs(t *testing.T, name string, c impl.Chest, want string) {
	t.Helper()
	is(t, name, want, c.Next, c.Nodes, c.Heads, c.Pending)
}

func TestPromise20Puts(t *testing.T) {
	ab, abab := gram("a\nb\n0 1\n"), gram("a\nb\n0 1\n2 2\n")
	d := depot(1, 3, ab, abab, impl.Grammar{}, gram("b\na\n1 0\n0 2\n"), gram("b\n"), gram("a\na\n0 1\nc\n1 0\n2 4\nd\n5 6\n"))
	for _, c := range []struct{ text, want string }{
		{"", "0 [] [{0 0} {0 0} {0 0}] [{0 0} {0 0} {0 0}]"},
		// The empty word, and twice.
		{"put 1 2", "0 [] [{0 0} {1 -1} {0 0}] [{0 0} {0 0} {0 0}]"},
		{"put 1 2; put 1 2", "0 [] [{0 0} {2 -1} {0 0}] [{0 0} {0 0} {0 0}]"},
		// A word twice, under two names, and one that is a rule of another one.
		{"put 0 0; put 0 0", "3 [{0 a 0 0} {1 b 0 0} {2  0 1}] [{2 2} {0 0} {0 0}] [{0 0} {0 0} {0 0}]"},
		{"put 0 0; put 2 0", "3 [{0 a 0 0} {1 b 0 0} {2  0 1}] [{1 2} {0 0} {1 2}] [{0 0} {0 0} {0 0}]"},
		{"put 0 0; put 1 1", "4 [{0 a 0 0} {1 b 0 0} {2  0 1} {3  2 2}] [{1 2} {1 3} {0 0}] [{0 0} {0 0} {0 0}]"},
		{"put 0 1; put 1 0; put 2 4", "4 [{0 a 0 0} {1 b 0 0} {2  0 1} {3  2 2}] [{1 3} {1 2} {1 1}] [{0 0} {0 0} {0 0}]"},
		// Words that share rules.
		{"put 0 0; put 0 3", "4 [{0 a 0 0} {1 b 0 0} {2  0 1} {3  1 2}] [{2 3} {0 0} {0 0}] [{0 0} {0 0} {0 0}]"},
		{"put 0 3; put 0 0", "4 [{0 b 0 0} {1 a 0 0} {2  1 0} {3  0 2}] [{2 2} {0 0} {0 0}] [{0 0} {0 0} {0 0}]"},
		// What is put is trimmed: equal rules are one, and unused ones are none.
		{"put 0 5", "5 [{0 a 0 0} {1  0 0} {2  1 1} {3 d 0 0} {4  2 3}] [{1 4} {0 0} {0 0}] [{0 0} {0 0} {0 0}]"},
		// A put behind a sweep, and behind a crash.
		{"put 0 0; put 0 4; sweep 0; put 0 0", "5 [{1 b 0 0} {3 a 0 0} {4  3 1}] [{3 4} {0 0} {0 0}] [{0 0} {0 0} {0 0}]"},
		{"put 0 0; crash 0; put 0 3", "4 [{0 b 0 0} {1 a 0 0} {2  1 0} {3  0 2}] [{1 3} {0 0} {0 0}] [{0 0} {0 0} {0 0}]"},
		{"put 0 0; save 0; put 0 3; crash 0; put 1 1", "4 [{0 a 0 0} {1 b 0 0} {2  0 1} {3  2 2}] [{1 2} {1 3} {0 0}] [{0 0} {0 0} {0 0}]"},
		{"put 0 0; save 0; put 0 2; sweep 0; crash 0", "3 [{0 a 0 0} {1 b 0 0} {2  0 1}] [{1 2} {0 0} {0 0}] [{0 0} {0 0} {0 0}]"},
		{"put 0 0; put 0 2; sweep 0; save 0; crash 0; put 0 0", "6 [{3 a 0 0} {4 b 0 0} {5  3 4}] [{3 5} {0 0} {0 0}] [{0 0} {0 0} {0 0}]"},
		// A head without a version reaches no node, although its At is 0.
		{"put 0 0; put 0 2; sweep 0", "3 [] [{2 -1} {0 0} {0 0}] [{0 0} {0 0} {0 0}]"},
	} {
		chestIs(t, c.text, behind(t, d, c.text).Shops[0].Chest, c.want)
	}
	// The owner of a name, for more names than servers and for fewer.
	for servers := int64(1); servers <= impl.MaxServers; servers++ {
		for name := range int64(impl.MaxNames) {
			s := behind(t, depot(servers, impl.MaxNames, ab), fmt.Sprint("put ", name, " 0"))
			for k, shop := range s.Shops {
				n := 0
				if int64(k) == name%servers {
					n = 3
					is(t, "the first address", fmt.Sprint(k*impl.MaxAddress), shop.Chest.Nodes[0].At)
				}
				is(t, "the nodes of a server", fmt.Sprint(n, n, 0), len(shop.Chest.Nodes), shop.Chest.Next, len(shop.Saved.Nodes))
			}
		}
	}
}

// TestPromise20LeastAddress puts words at a server that has several nodes of the same rule.
func TestPromise20LeastAddress(t *testing.T) {
	d := depot(2, 4, gram("a\nb\n0 1\n"), gram("a\n"), gram("b\na\n1 0\n"), gram("a\nb\n0 1\n2 2\n"))
	// The server 1 has put "a" and "b" before those of the server 0 come in, which have lesser addresses.
	come := "put 1 2; save 1; put 0 0; save 0; offer 0 1 0; deliver 0; ask 1 0; deliver 0; deliver 0; ask 1 0; deliver 0; deliver 0;"
	chestIs(t, come, behind(t, d, come).Shops[1].Chest, "3 [{0 a 0 0} {1 b 0 0} {2  0 1} {1000 b 0 0} {1001 a 0 0} {1002  1001 1000}] [{1 2} {1 1002} {0 0} {0 0}] [{0 0} {0 0} {0 0} {0 0}]")
	for _, c := range []struct{ text, want string }{
		{"put 3 1", "3 {1 0}"}, {"put 3 0", "3 {1 2}"}, {"put 3 3", "4 {1 1003}"}, {"put 1 0", "3 {0 0}"},
	} {
		chest := behind(t, d, come+c.text).Shops[1].Chest
		is(t, c.text, c.want, chest.Next, chest.Heads[3])
	}
	// Behind a sweep, only its own nodes are there; "ab" of the server 0 is a new pair of them.
	text := come + "put 1 2; sweep 1; put 3 3"
	is(t, text, "{1 1003}", behind(t, d, text).Shops[1].Chest.Heads[3])
	// The other way round: what comes to the server 0 has greater addresses, and its own nodes are taken.
	text = "put 1 0; save 1; offer 1 0 1; deliver 0; ask 0 1; deliver 0; deliver 0; ask 0 1; deliver 0; deliver 0; put 0 1; put 2 2"
	chestIs(t, text, behind(t, d, text).Shops[0].Chest, "0 [{1000 a 0 0} {1001 b 0 0} {1002  1000 1001}] [{1 1000} {1 1002} {1 1002} {0 0}] [{0 0} {0 0} {0 0} {0 0}]")
	// New nodes of the server 0 come ahead of those, and are still not taken instead of a pair of them.
	text += "; put 0 3; sweep 0"
	chestIs(t, text, behind(t, d, text).Shops[0].Chest, "1 [{0  1002 1002} {1000 a 0 0} {1001 b 0 0} {1002  1000 1001}] [{2 0} {1 1002} {1 1002} {0 0}] [{0 0} {0 0} {0 0} {0 0}]")
	// Of several nodes of the same pair, the pair of the least nodes is taken, not the least pair.
	pairs := depot(2, 4, gram("a\nb\n0 1\n"), gram("b\na\n0 1\n"), gram("c\n"))
	text = "put 1 0; put 0 1; save 0; offer 0 1 0; deliver 0; ask 1 0; deliver 0; deliver 0; ask 1 0; deliver 0; deliver 0; put 3 0; put 3 0"
	chest := behind(t, pairs, text).Shops[1].Chest
	is(t, text, "4 [{0 b 0 0} {1 a 0 0} {2  0 1} {1000 a 0 0} {1001 b 0 0} {1002  1000 1001} {1003  1 0}] {2 1003}", chest.Next, chest.Nodes, chest.Heads[3])
}

// distinct returns a grammar of exactly so many rules, no two of which are equal: letters, and pairs of the one before and a letter.
func distinct(count int) impl.Grammar {
	g := rules(letter("a"), letter("b"), letter("c"), letter("d"))
	for len(g.Rules) < count {
		g.Rules = append(g.Rules, pair(last(g), len(g.Rules)%4))
	}
	return g
}

func TestPromise20MaxNodes(t *testing.T) {
	ab := gram("a\nb\n0 1\n")
	full := depot(1, 2, chain(400), gram("a\n"), chain(7), ab, gram("b\n"), impl.Grammar{}, chain(399), chain(398))
	for _, c := range []struct {
		text  string
		nodes int
	}{
		{"put 0 0", 400}, {"put 0 0; put 1 0", 400}, {"put 0 0; put 1 1; put 1 2; put 1 5", 400}, {"put 0 6; put 1 4", 400}, {"put 0 7; put 1 3", 400}, {"put 0 0; put 0 1; sweep 0; put 0 3", 3}, {"put 0 6; put 0 0; put 0 0", 400},
	} {
		is(t, "the nodes behind "+c.text, fmt.Sprint(c.nodes), len(behind(t, full, c.text).Shops[0].Chest.Nodes))
	}
	for _, text := range []string{"put 0 0; put 1 3", "put 0 0; put 1 4", "put 0 6; put 1 3", "put 0 0; put 0 1; put 0 4", "put 0 0; save 0; put 0 2; put 1 4"} {
		refuses(t, full, text, impl.ErrLimit)
	}
	// A put that fails on its way leaves everything as it was, so that the same addresses are given afterwards.
	text := "put 0 7; put 1 4; put 0 5; sweep 0"
	before := behind(t, full, text).Shops[0].Chest
	w, _ := worldOf(full).after(deeds("put 0 6; put 1 3; put 1 4; put 1 2"))
	storesAlike(t, full, deeds("put 0 6; put 1 3; put 1 4; put 1 2"), w, 3)
	is(t, "nodes and addresses", "1 399", len(before.Nodes), before.Next)
	// What has come in counts, too, and may be more than MaxNodes.
	wide := depot(2, 4, wideGrammar(420, 1), wideGrammar(420, 2), gram("a\n"), gram("d\nd\n0 1\n0 2\n3 1\n"), impl.Grammar{}, gram("d\n0 0\n1 1\n2 2\n3 3\n4 4\n5 5\n"))
	list := deeds("put 0 0; put 1 1")
	plan, code := impl.SpreadDeeds(wide, list, 1)
	is(t, "the code of SpreadDeeds", "0", code)
	list = append(list, plan...)
	w, _ = worldOf(wide).after(list)
	s := storesAlike(t, wide, list, w, len(list))
	n := len(s.Shops[0].Chest.Nodes)
	if n <= impl.MaxNodes {
		t.Errorf("the server 0 has only %d nodes", n)
	}
	for _, c := range []struct {
		text string
		code int64
	}{
		{"put 2 2", impl.OK}, {"put 2 0", impl.OK}, {"put 2 4", impl.OK}, {"put 2 5", impl.ErrLimit}, {"put 0 4; put 2 5", impl.ErrLimit}, {"put 0 4; sweep 0; put 2 5", impl.OK}, {"crash 0; put 2 5", impl.ErrLimit},
		// Its own letters have lesser addresses than those that its other nodes are pairs of.
		{"put 2 1", impl.ErrLimit},
	} {
		all := slices.Concat(list, deeds(c.text))
		w, codes := worldOf(wide).after(all)
		is(t, "put at a crowded server: "+c.text, fmt.Sprint(c.code), codes[len(codes)-1])
		done := len(all)
		if c.code != impl.OK {
			done--
		}
		storesAlike(t, wide, all, w, done)
	}
}

// TestPromise20FailsOnItsWay puts words for which there is too little room at a server that has nodes of another one, too: so the
// new nodes that come ahead of those, before there is no more room, have to go again.
func TestPromise20FailsOnItsWay(t *testing.T) {
	foreign := wideGrammar(90, 3)
	met := map[int64]int{}
	for further := range 9 {
		// Three of the rules of the chain are there already, and three of the last word are new.
		d := depot(2, 4, foreign, chain(impl.MaxNodes-len(foreign.Rules)-5+further), gram("d\nc\n0 0\n1 1\n2 3\n3 2\n4 5\n5 4\n"))
		list := deeds("put 1 0")
		plan, code := impl.SpreadDeeds(d, list, 1)
		is(t, "the code of SpreadDeeds", "0", code)
		list = append(list, plan...)
		w, _ := worldOf(d).after(list)
		done := len(list)
		// What is put in the end is put as if what is refused had not been tried.
		for _, one := range deeds("put 0 1; put 2 2; put 0 1; put 0 0; sweep 0; put 2 2; save 0; crash 0") {
			list = append(list, one)
			if code := w.do(one); code == impl.OK {
				done++
			} else {
				met[one.B]++
			}
			storesAlike(t, d, list, w, done)
		}
	}
	is(t, "three puts are refused: by the first new node, by the second and by the third one", "map[2:3]", met)
}

// wideGrammar returns the halved grammar of a word with so many letters and no evident order.
func wideGrammar(length int, seed uint32) impl.Grammar {
	g, _ := halvedBy(mixedWord("abcd", length, seed*71+5))
	return g
}

// TestPromise20MaxAddress puts words until all addresses have been given.
func TestPromise20MaxAddress(t *testing.T) {
	d := depot(2, 4, distinct(388), gram("b\n"), gram("a\n"), impl.Grammar{}, gram("c\nd\n0 1\n"), gram("d\n"), gram("a\n0 0\n"), distinct(220))
	text := strings.Repeat("put 1 0; put 1 3; sweep 1; ", 2) + "put 1 4; put 1 3; sweep 1; put 1 7; put 1 3; sweep 1; "
	s := behind(t, d, text)
	is(t, "addresses given", "999 0", s.Shops[1].Chest.Next, len(s.Shops[1].Chest.Nodes))
	refuses(t, d, text+"put 1 6", impl.ErrLimit)
	s = behind(t, d, text+"put 1 2")
	is(t, "all addresses are given", "1000 [{1999 a 0 0}] {9 1999}", s.Shops[1].Chest.Next, s.Shops[1].Chest.Nodes, s.Shops[1].Chest.Heads[1])
	text += "put 1 2;"
	for _, more := range []string{"put 1 1", "put 3 1", "put 1 6", "put 3 4", "put 1 3; sweep 1; put 1 2", "save 1; put 1 5"} {
		refuses(t, d, text+more, impl.ErrLimit)
	}
	for _, more := range []string{"put 1 2", "put 3 2", "put 3 3", "put 0 0", "put 2 4", "save 1; crash 1; put 3 2"} {
		behind(t, d, text+more)
	}
	// What is not saved is given back by a crash.
	s = behind(t, d, text+"crash 1; put 1 4")
	is(t, "addresses given behind a crash", "3 [{1000 c 0 0} {1001 d 0 0} {1002  1000 1001}]", s.Shops[1].Chest.Next, s.Shops[1].Chest.Nodes)
	s = behind(t, d, text+"save 1; crash 1; put 0 4")
	is(t, "addresses given behind a save", "1000 3", s.Shops[1].Chest.Next, s.Shops[0].Chest.Next)
}

func TestPromise20SavesAndCrashes(t *testing.T) {
	d := depot(2, 2, gram("a\nb\n0 1\n"), gram("b\n"))
	const none = "0 [] [{0 0} {0 0}] [{0 0} {0 0}]"
	for _, c := range []struct{ text, chest, saved string }{
		{"put 0 1", "1 [{0 b 0 0}] [{1 0} {0 0}] [{0 0} {0 0}]", none},
		{"put 0 1; crash 0", none, none},
		{"put 0 1; save 1; crash 0", none, none},
		{"put 0 1; save 0", "1 [{0 b 0 0}] [{1 0} {0 0}] [{0 0} {0 0}]", "1 [{0 b 0 0}] [{1 0} {0 0}] [{0 0} {0 0}]"},
		{"put 0 1; save 0; put 0 0", "3 [{0 b 0 0} {1 a 0 0} {2  1 0}] [{2 2} {0 0}] [{0 0} {0 0}]", "1 [{0 b 0 0}] [{1 0} {0 0}] [{0 0} {0 0}]"},
		{"put 0 1; save 0; put 0 0; crash 0", "1 [{0 b 0 0}] [{1 0} {0 0}] [{0 0} {0 0}]", "1 [{0 b 0 0}] [{1 0} {0 0}] [{0 0} {0 0}]"},
		{"put 0 1; save 0; put 0 0; crash 1", "3 [{0 b 0 0} {1 a 0 0} {2  1 0}] [{2 2} {0 0}] [{0 0} {0 0}]", "1 [{0 b 0 0}] [{1 0} {0 0}] [{0 0} {0 0}]"},
		{"put 0 1; save 0; put 0 0; crash 0; put 0 0; save 0; crash 0", "3 [{0 b 0 0} {1 a 0 0} {2  1 0}] [{2 2} {0 0}] [{0 0} {0 0}]", "3 [{0 b 0 0} {1 a 0 0} {2  1 0}] [{2 2} {0 0}] [{0 0} {0 0}]"},
	} {
		s := behind(t, d, c.text)
		chestIs(t, "the chest behind "+c.text, s.Shops[0].Chest, c.chest)
		chestIs(t, "what is saved behind "+c.text, s.Shops[0].Saved, c.saved)
	}
	// A Pending head is saved, too, and comes back.
	start := "put 0 0; save 0; offer 0 1 0; deliver 0; save 1; ask 1 0; deliver 0; deliver 0; "
	s := behind(t, d, start)
	chestIs(t, start, s.Shops[1].Chest, "0 [{2  0 1}] [{0 0} {0 0}] [{1 2} {0 0}]")
	chestIs(t, start, s.Shops[1].Saved, "0 [] [{0 0} {0 0}] [{1 2} {0 0}]")
	s = behind(t, d, start+"ask 1 0; deliver 0; deliver 0; crash 1")
	chestIs(t, "a crash", s.Shops[1].Chest, "0 [] [{0 0} {0 0}] [{1 2} {0 0}]")
	// A head that is not saved is not offered: the one that is saved is.
	refuses(t, d, "put 0 0; offer 0 1 0", impl.ErrState)
	refuses(t, d, "put 0 0; save 0; crash 0; offer 0 1 1", impl.ErrState)
	refuses(t, d, "put 0 0; crash 0; save 0; offer 0 1 0", impl.ErrState)
	s = behind(t, d, "put 0 1; save 0; put 0 0; offer 0 1 0; put 0 1; save 0; put 0 0; crash 0; offer 0 1 0")
	is(t, "the offers", "[{1 0 1 0 {1 0} [] []} {1 0 1 0 {3 0} [] []}]", s.Wire)
	// Also a server that is not the owner offers what it has saved.
	text := "put 0 1; save 0; offer 0 1 0; deliver 0; ask 1 0; deliver 0; deliver 0;"
	refuses(t, d, text+"offer 1 0 0", impl.ErrState)
	s = behind(t, d, text+"save 1; crash 0; offer 1 0 0; copy 0")
	is(t, "the offer", "[{1 1 0 0 {1 0} [] []}] [{1 0} {0 0}] [{0 0} {0 0}]", s.Wire, s.Shops[0].Chest.Heads, s.Shops[0].Chest.Pending)
}

func TestPromise20Offers(t *testing.T) {
	d := depot(3, 2, gram("a\nb\n0 1\n"), gram("b\n"), impl.Grammar{})
	// Three versions of the name 0, each of which is offered to the server 1.
	wire := "put 0 0; save 0; offer 0 1 0; put 0 1; save 0; offer 0 1 0; put 0 0; save 0; offer 0 1 0; "
	for _, c := range []struct{ text, heads, pending string }{
		{"", "[{0 0} {0 0}]", "[{0 0} {0 0}]"},
		{"deliver 0", "[{0 0} {0 0}]", "[{1 2} {0 0}]"},
		{"deliver 1", "[{0 0} {0 0}]", "[{2 1} {0 0}]"},
		{"deliver 2", "[{0 0} {0 0}]", "[{3 2} {0 0}]"},
		{"deliver 0; deliver 0; deliver 0", "[{0 0} {0 0}]", "[{3 2} {0 0}]"},
		{"deliver 2; deliver 1; deliver 0", "[{0 0} {0 0}]", "[{3 2} {0 0}]"},
		{"deliver 1; deliver 0; deliver 0", "[{0 0} {0 0}]", "[{3 2} {0 0}]"},
		{"deliver 1; copy 0", "[{0 0} {0 0}]", "[{2 1} {0 0}]"},
		{"copy 1; copy 1; copy 0", "[{0 0} {0 0}]", "[{2 1} {0 0}]"},
		// The second version has come in as a whole.
		{"copy 1; ask 1 0; deliver 3; deliver 3", "[{2 1} {0 0}]", "[{0 0} {0 0}]"},
		{"copy 1; ask 1 0; deliver 3; deliver 3; copy 0; copy 1", "[{2 1} {0 0}]", "[{0 0} {0 0}]"},
		{"copy 1; ask 1 0; deliver 3; deliver 3; copy 2", "[{2 1} {0 0}]", "[{3 2} {0 0}]"},
		{"copy 1; ask 1 0; deliver 3; deliver 3; copy 2; copy 1; copy 0", "[{2 1} {0 0}]", "[{3 2} {0 0}]"},
		// An older version that is offered again while a newer one is Pending.
		{"copy 2; ask 1 0; deliver 3; deliver 3; copy 0; copy 1", "[{0 0} {0 0}]", "[{3 2} {0 0}]"},
	} {
		s := behind(t, d, wire+c.text)
		is(t, c.text, c.heads+" "+c.pending, s.Shops[1].Chest.Heads, s.Shops[1].Chest.Pending)
	}
	// The empty word is never Pending, and the owner does not go back.
	s := behind(t, d, "put 0 2; save 0; offer 0 1 0; deliver 0")
	chestIs(t, "the empty word", s.Shops[1].Chest, "0 [] [{1 -1} {0 0}] [{0 0} {0 0}]")
	s = behind(t, d, wire+"put 0 2; save 0; offer 0 1 0; deliver 0; deliver 0; deliver 0; deliver 0")
	chestIs(t, "the empty word behind others", s.Shops[1].Chest, "0 [] [{4 -1} {0 0}] [{0 0} {0 0}]")
	s = behind(t, d, wire+"put 0 2; save 0; offer 0 1 0; deliver 3; copy 0; copy 1; copy 2; save 1; offer 1 0 0; offer 1 2 0; deliver 4; deliver 3")
	chestIs(t, "the empty word at a third server", s.Shops[2].Chest, "0 [] [{4 -1} {0 0}] [{0 0} {0 0}]")
	is(t, "the owner", "[{4 -1} {0 0}] [{0 0} {0 0}]", s.Shops[0].Chest.Heads, s.Shops[0].Chest.Pending)
	// All nodes are there already: the offer is complete at once.
	s = behind(t, d, wire+"copy 2; ask 1 0; deliver 3; deliver 3; ask 1 0; deliver 3; deliver 3; put 0 1; save 0; offer 0 1 0; deliver 3")
	is(t, "all nodes are there", "[{4 1} {0 0}] [{0 0} {0 0}]", s.Shops[1].Chest.Heads, s.Shops[1].Chest.Pending)
}

func TestPromise20Asks(t *testing.T) {
	d := depot(3, 4, gram("a\nb\n0 1\n"), gram("b\n"), gram("c\nd\n0 1\n"), gram("a\n0 0\n"))
	start := "put 0 0; put 1 2; save 0; save 1; offer 0 2 0; offer 1 2 1; deliver 0; deliver 0; "
	// The addresses of all Pending heads, in ascending order.
	s := behind(t, d, start+"ask 2 1")
	is(t, "the ask", "[{2 2 1 0 {0 0} [2 1002] []}]", s.Wire)
	s = behind(t, d, start+"ask 2 1; deliver 0")
	is(t, "the answer", "[{3 1 2 0 {0 0} [] [{1002  1000 1001}]}]", s.Wire)
	s = behind(t, d, start+"ask 2 0; copy 0; copy 0; ask 2 1")
	is(t, "asks and answers", "[{2 2 0 0 {0 0} [2 1002] []} {3 0 2 0 {0 0} [] [{2  0 1}]} {3 0 2 0 {0 0} [] [{2  0 1}]} {2 2 1 0 {0 0} [2 1002] []}]", s.Wire)
	s = behind(t, d, start+"ask 2 0; deliver 0; deliver 0; ask 2 1")
	is(t, "a further ask", "[{2 2 1 0 {0 0} [0 1 1002] []}]", s.Wire)
	m, code := impl.MissingAfter(d, deeds(start+"ask 2 0; deliver 0; deliver 0"), 2)
	is(t, "MissingAfter", "[0 1 1002] 0", m, code)
	// No node that is asked for is saved there: nothing happens, and the ask is done.
	for _, text := range []string{"ask 2 1; drop 0", "offer 0 1 0; deliver 0; ask 1 2; deliver 0", "put 0 2; save 0; offer 0 1 0; deliver 0; put 0 3; sweep 0; save 0; ask 1 0; deliver 0"} {
		is(t, text, "[]", behind(t, d, start+text).Wire)
	}
	s = behind(t, d, start+"offer 0 1 0; deliver 0; ask 1 2; copy 0; copy 0")
	is(t, "an ask that stays", "[{2 1 2 0 {0 0} [2] []}]", s.Wire)
	// What the asked server has is not enough: it has to be saved. What it has no more is, if it is saved.
	text := start + "ask 2 0; deliver 0; deliver 0; offer 0 1 0; deliver 0; ask 1 2; "
	is(t, "an ask for what is not saved", "[]", behind(t, d, text+"deliver 0").Wire)
	is(t, "an ask for what is saved", "[{3 2 1 0 {0 0} [] [{2  0 1}]}]", behind(t, d, text+"save 2; deliver 0").Wire)
	is(t, "an ask for what is swept", "[{3 0 2 0 {0 0} [] [{2  0 1}]}]", behind(t, d, start+"put 0 1; sweep 0; ask 2 0; deliver 0").Wire)
	// Several mails complete a Pending head; one completes two.
	two := depot(2, 4, gram("a\nb\n0 1\n"), gram("a\nb\n1 0\n"), gram("b\n"), gram("a\nb\n0 1\n0 2\n"))
	start = "put 0 0; put 2 1; save 0; offer 0 1 0; offer 0 1 2; deliver 0; deliver 0; ask 1 0; deliver 0; deliver 0; "
	s = behind(t, two, start)
	is(t, "two Pending heads", "[{0 0} {0 0} {0 0} {0 0}] [{1 2} {0 0} {1 3} {0 0}]", s.Shops[1].Chest.Heads, s.Shops[1].Chest.Pending)
	s = behind(t, two, start+"ask 1 0; deliver 0; deliver 0")
	is(t, "two heads at once", "[{1 2} {0 0} {1 3} {0 0}] [{0 0} {0 0} {0 0} {0 0}]", s.Shops[1].Chest.Heads, s.Shops[1].Chest.Pending)
	start = "put 0 0; put 2 3; save 0; offer 0 1 0; offer 0 1 2; deliver 0; deliver 0; ask 1 0; deliver 0; deliver 0; "
	s = behind(t, two, start+"ask 1 0; deliver 0; deliver 0")
	is(t, "both are complete", "[{1 2} {0 0} {1 3} {0 0}] [{0 0} {0 0} {0 0} {0 0}]", s.Shops[1].Chest.Heads, s.Shops[1].Chest.Pending)
	start = "put 0 0; put 2 3; save 0; offer 0 1 2; deliver 0; ask 1 0; deliver 0; deliver 0; ask 1 0; deliver 0; deliver 0; ask 1 0; offer 0 1 0; "
	s = behind(t, two, start+"deliver 1")
	is(t, "both are missing the same node", "[{0 0} {0 0} {0 0} {0 0}] [{1 2} {0 0} {1 3} {0 0}]", s.Shops[1].Chest.Heads, s.Shops[1].Chest.Pending)
	s = behind(t, two, start+"deliver 1; deliver 0; deliver 0")
	is(t, "one node completes both", "[{1 2} {0 0} {1 3} {0 0}] [{0 0} {0 0} {0 0} {0 0}]", s.Shops[1].Chest.Heads, s.Shops[1].Chest.Pending)
	// Nodes that are there already, again and again, and out of order.
	start = "put 0 0; save 0; offer 0 1 0; deliver 0; ask 1 0; copy 0; copy 0; deliver 0; "
	s = behind(t, two, start+"deliver 2; copy 0; copy 1; deliver 0; ask 1 0; deliver 1; deliver 1; deliver 0")
	chestIs(t, "nodes that come again", s.Shops[1].Chest, "0 [{0 a 0 0} {1 b 0 0} {2  0 1}] [{1 2} {0 0} {0 0} {0 0}] [{0 0} {0 0} {0 0} {0 0}]")
	// Nodes that nobody asks for any more come in behind a crash, and are swept.
	s = behind(t, two, "put 0 0; save 0; offer 0 1 0; deliver 0; ask 1 0; deliver 0; crash 1; deliver 0")
	chestIs(t, "nodes behind a crash", s.Shops[1].Chest, "0 [{2  0 1}] [{0 0} {0 0} {0 0} {0 0}] [{0 0} {0 0} {0 0} {0 0}]")
	s = behind(t, two, "put 0 0; save 0; offer 0 1 0; deliver 0; ask 1 0; deliver 0; crash 1; deliver 0; sweep 1")
	chestIs(t, "a sweep", s.Shops[1].Chest, "0 [] [{0 0} {0 0} {0 0} {0 0}] [{0 0} {0 0} {0 0} {0 0}]")
	// A sweep keeps what a Pending head reaches, and the head of the same name, too.
	s = behind(t, two, "put 0 2; save 0; offer 0 1 0; deliver 0; ask 1 0; deliver 0; deliver 0; put 0 0; save 0; offer 0 1 0; deliver 0; ask 1 0; deliver 0; deliver 0; sweep 1")
	chestIs(t, "a sweep", s.Shops[1].Chest, "0 [{0 b 0 0} {2  1 0}] [{1 0} {0 0} {0 0} {0 0}] [{2 2} {0 0} {0 0} {0 0}]")
}

// TestPromise20MaxAsk asks for just as many addresses as one mail may have, and for more.
func TestPromise20MaxAsk(t *testing.T) {
	met := map[int]int{}
	for count := 30; count < 64; count++ {
		d := depot(2, 1, blocks(count))
		list := deeds("put 0 0; save 0; offer 0 1 0; deliver 0")
		w, _ := worldOf(d).after(list)
		for len(w.chests[1].missingFrom(w.chests[1].pending...)) > 0 {
			missing := w.chests[1].missingFrom(w.chests[1].pending...)
			met[len(missing)]++
			got, code := impl.MissingAfter(d, list, 1)
			is(t, "MissingAfter", fmt.Sprint(missing, " 0"), got, code)
			for _, one := range deeds("ask 1 0; deliver 0; deliver 0") {
				list = append(list, one)
				w.do(one)
				s := storesAlike(t, d, list, w, len(list))
				if one.Kind == impl.DdAsk {
					is(t, "the list of an ask", fmt.Sprint(missing[:min(impl.MaxAsk, len(missing))]), s.Wire[0].List)
				}
			}
		}
	}
	for _, count := range []int{1, 2, impl.MaxAsk - 1, impl.MaxAsk, impl.MaxAsk + 1, impl.MaxAsk + 2} {
		if met[count] == 0 {
			t.Errorf("no server is missing %d addresses: %v", count, met)
		}
	}
}

// TestPromise20MaxWire fills the wire, and delivers and copies asks when there is no room for an answer, and when there is.
func TestPromise20MaxWire(t *testing.T) {
	d := depot(2, 2, gram("a\nb\n0 1\n"))
	start := "put 0 0; save 0; offer 0 1 0; deliver 0; ask 1 0; "
	offers := func(n int) string { return strings.Repeat("offer 0 1 0; ", n) }
	for _, c := range []struct {
		text     string
		mails    int
		answered bool
	}{
		{offers(10) + "copy 0", 12, true}, {offers(11) + "copy 0", 12, false}, {offers(10) + "copy 0; copy 0", 12, true}, {offers(9) + "copy 0; copy 0", 12, true},
		{offers(11) + "deliver 0", 12, true}, {offers(10) + "deliver 0", 11, true}, {offers(11) + "deliver 0; deliver 11", 11, false}, {offers(11) + "deliver 5; copy 0", 12, true}, {offers(11) + "drop 11; copy 0; copy 0", 12, true},
	} {
		s := behind(t, d, start+c.text)
		is(t, "the wire behind "+c.text, fmt.Sprint(c.mails, c.answered), len(s.Wire), s.Wire[len(s.Wire)-1].Kind == impl.MlNodes)
	}
	refuses(t, d, start+offers(12), impl.ErrLimit)
	refuses(t, d, start+offers(11)+"ask 1 0", impl.ErrLimit)
	refuses(t, d, start+offers(11)+"copy 0; copy 0; ask 1 0", impl.ErrLimit)
	behind(t, d, start+offers(10)+"ask 1 0; copy 11")
	behind(t, d, start+offers(10)+"ask 1 0; deliver 11; deliver 0")
	// Mails have the places that they have in the wire, in which those behind move up.
	two := depot(3, 3, gram("a\n"))
	text := "put 0 0; put 1 0; put 2 0; save 0; save 1; save 2; offer 0 1 0; offer 0 2 0; offer 1 0 1; offer 1 2 1; offer 2 0 2; offer 2 1 2; drop 1; drop 3; deliver 1; drop 0;"
	s := behind(t, two, text)
	is(t, "the wire", "[{1 1 2 1 {1 1000} [] []} {1 2 1 2 {1 2000} [] []}] [{0 0} {1 1000} {0 0}]", s.Wire, s.Shops[0].Chest.Pending)
}
