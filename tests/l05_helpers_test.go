package tests

import (
	"math/big"
	"slices"
	"strings"
	"testing"

	"loop.example/g01133/impl"
)

// says checks a number that may be negative.
func says(t *testing.T, name string, got, code, want int64) {
	t.Helper()
	if got != want || code != impl.OK {
		t.Errorf("%s: got %d and the code %d, want %d", name, got, code, want)
	}
}

// each returns the letters, each one alone.
func each() []string { return strings.Split("abcd", "") }

// four returns a list of four lists of four numbers.
func four() [][]int64 {
	return [][]int64{make([]int64, 4), make([]int64, 4), make([]int64, 4), make([]int64, 4)}
}

// someModuli returns moduli, those at both ends too.
func someModuli() []int64 {
	return []int64{1, 2, 3, 4, 5, 9, 10, 97, 100, 65536, 999999937, impl.MaxModulus - 1, impl.MaxModulus}
}

// someWeights returns lists of four weights.
func someWeights() [][]int64 {
	return [][]int64{
		{1, -2, 0, 0}, {1, -1, 0, 0}, {-1, 1, 0, 0}, {0, 0, 0, 0}, {9, 9, 9, 9}, {-9, -9, -9, -9}, {9, -9, 9, -9}, {-9, 9, 3, -2},
		{0, 0, 1, -1}, {5, -7, 2, -1}, {-3, 2, 0, 9}, {1, 1, -2, 0}, {0, -1, 0, 0}, {-1, 0, 0, 1}, {2, -3, 0, 1},
	}
}

// pairsBy returns how often each letter comes right behind each one in a short word.
func pairsBy(w string) [][]int64 {
	pairs := four()
	for i := 1; i < len(w); i++ {
		pairs[w[i-1]-'a'][w[i]-'a']++
	}
	return pairs
}

// runsBy returns the number of runs of a short word, and the longest one of each letter.
func runsBy(w string) (int64, []int64) {
	count, length, longest := int64(0), int64(0), make([]int64, 4)
	for i := range len(w) {
		if i == 0 || w[i] != w[i-1] {
			count++
			length = 0
		}
		length++
		longest[w[i]-'a'] = max(longest[w[i]-'a'], length)
	}
	return count, longest
}

// table is a table of numbers that are not limited.
type table [][]*big.Int

// tableOf returns a table with so many rows and columns.
func tableOf(size int, number func(i, j int) *big.Int) table {
	var made table
	for i := range size {
		made = append(made, nil)
		for j := range size {
			made[i] = append(made[i], number(i, j))
		}
	}
	return made
}

// rest returns the rests of the numbers of a table by division by a modulus.
func (x table) rest(modulus int64) [][]int64 {
	made := [][]int64{}
	for _, row := range x {
		list := []int64{}
		for _, n := range row {
			list = append(list, restOf(n, modulus))
		}
		made = append(made, list)
	}
	return made
}

// restOf returns the rest of a number by division by a modulus.
func restOf(n *big.Int, modulus int64) int64 {
	return new(big.Int).Mod(n, big.NewInt(modulus)).Int64()
}

// divided returns how often the parts of a word are scattered in a join: they are divided in all ways
// into what is scattered in its first part and in its second one.
func (x table) divided(y table) table {
	return tableOf(len(x), func(i, j int) *big.Int {
		sum := new(big.Int)
		for k := i; k <= j; k++ {
			sum.Add(sum, new(big.Int).Mul(x[i][k], y[k][j]))
		}
		return sum
	})
}

// scatteredBy returns how often the parts of p are scattered in a short word, letter by letter.
func scatteredBy(w, p string) table {
	ways := tableOf(len(p)+1, func(i, j int) *big.Int {
		if i == j {
			return big.NewInt(1)
		}
		return new(big.Int)
	})
	for k := range len(w) {
		for i := range ways {
			for j := len(p); j > i; j-- {
				if p[j-1] == w[k] {
					ways[i][j].Add(ways[i][j], ways[i][j-1])
				}
			}
		}
	}
	return ways
}

// embeddingsBy returns all lists of places at which p is scattered in a short word.
func embeddingsBy(w, p string) [][]int64 {
	if p == "" {
		return [][]int64{{}}
	}
	var all [][]int64
	for i := range len(w) {
		if w[i] != p[0] {
			continue
		}
		for _, rest := range embeddingsBy(w[i+1:], p[1:]) {
			places := []int64{int64(i)}
			for _, place := range rest {
				places = append(places, place+int64(i)+1)
			}
			all = append(all, places)
		}
	}
	return all
}

// firstBy returns the places of the letters of p in a short word, each one as near as it can be behind
// the one before it, up to the first one that is not met.
func firstBy(w, p string) []int64 {
	places, i := []int64{}, 0
	for k := range len(p) {
		next := strings.IndexByte(w[i:], p[k])
		if next < 0 {
			break
		}
		places = append(places, int64(i+next))
		i += next + 1
	}
	return places
}

// lastBy returns the same from the end on, in ascending order.
func lastBy(w, p string) []int64 {
	places, end := []int64{}, len(w)
	for k := len(p) - 1; k >= 0; k-- {
		end = strings.LastIndexByte(w[:end], p[k])
		if end < 0 {
			break
		}
		places = append(places, int64(end))
	}
	slices.Reverse(places)
	return places
}

// passedBy returns how many letters of p, repeated without an end, a short word passes from one of them on.
func passedBy(w, p string, at int64) int64 {
	passed := int64(0)
	for k := range len(w) {
		if p[(at+passed)%int64(len(p))] == w[k] {
			passed++
		}
	}
	return passed
}

// inversionsBy returns the number of inversions of a short word, pair by pair.
func inversionsBy(w string) int64 {
	count := int64(0)
	for i := range len(w) {
		for j := range i {
			if w[j] > w[i] {
				count++
			}
		}
	}
	return count
}

// placeSumBy returns the sum of the places of a letter of a short word.
func placeSumBy(w, letter string) int64 {
	sum := int64(0)
	for _, place := range placesBy(letter, w) {
		sum += place
	}
	return sum
}

// heightsBy returns the heights behind 0 letters of a short word, 1 letter, and so on.
func heightsBy(w string, weights []int64) []int64 {
	heights := []int64{0}
	for i := range len(w) {
		heights = append(heights, heights[i]+weights[w[i]-'a'])
	}
	return heights
}

// printBy returns the print of a short word, from its last letter on.
func printBy(w string, base, modulus int64) int64 {
	sum := int64(0)
	for i := len(w) - 1; i >= 0; i-- {
		sum = (sum*base + int64(w[i]-'a') + 1) % modulus
	}
	return sum
}

// pairs returns how often each letter comes right behind each one in a long word.
func (w pieces) pairs() [][]int64 {
	pairs := four()
	add := func(word string, times int64) {
		for k, row := range pairsBy(word) {
			for l, n := range row {
				pairs[k][l] += n * times
			}
		}
	}
	for k, p := range w {
		ends := p.word[len(p.word)-1:] + p.word[:1]
		add(p.word, p.times)
		add(ends, p.times-1)
		if k > 0 {
			before := w[k-1].word
			add(before[len(before)-1:]+p.word[:1], 1)
		}
	}
	return pairs
}

// longest returns the longest run of each letter of a long word: words that have different letters are
// repeated three times at most, because further times have the same runs again.
func (w pieces) longest() []int64 {
	longest, before, length := make([]int64, 4), byte(0), int64(0)
	add := func(letter byte, times int64) {
		if letter != before {
			before, length = letter, 0
		}
		length += times
		longest[letter-'a'] = max(longest[letter-'a'], length)
	}
	for _, p := range w {
		if strings.Count(p.word, p.word[:1]) == len(p.word) {
			add(p.word[0], p.times*int64(len(p.word)))
			continue
		}
		for _, letter := range []byte(strings.Repeat(p.word, int(min(3, p.times)))) {
			add(letter, 1)
		}
	}
	return longest
}

// count returns how often a letter occurs in a long word.
func (w pieces) count(letter string) int64 {
	count := int64(0)
	for _, p := range w {
		count += int64(strings.Count(p.word, letter)) * p.times
	}
	return count
}

// place returns the place of a letter of a long word with the number k, which there is.
func (w pieces) place(letter string, k int64) int64 {
	start := int64(0)
	for _, p := range w {
		places := placesBy(letter, p.word)
		each := int64(len(places))
		if k < each*p.times {
			return start + k/each*int64(len(p.word)) + places[k%each]
		}
		k -= each * p.times
		start += int64(len(p.word)) * p.times
	}
	return -1
}

// scattered returns how often the parts of p are scattered in a long word. In a word that is repeated, this
// is a polynomial of the number of times, of a degree that is not more than the length of p: so it is known
// from the first few times (by Newton's formula).
func (w pieces) scattered(p string) table {
	all := scatteredBy("", p)
	for _, q := range w {
		var samples []table
		for times := range len(p) + 1 {
			samples = append(samples, scatteredBy(strings.Repeat(q.word, times), p))
		}
		all = all.divided(tableOf(len(p)+1, func(i, j int) *big.Int {
			var differences []*big.Int
			for _, sample := range samples {
				differences = append(differences, new(big.Int).Set(sample[i][j]))
			}
			sum := new(big.Int)
			for k := range samples {
				ways := new(big.Int).Binomial(q.times, int64(k))
				sum.Add(sum, ways.Mul(ways, differences[0]))
				for l := range len(differences) - 1 {
					differences[l].Sub(differences[l+1], differences[l])
				}
				differences = differences[:len(differences)-1]
			}
			return sum
		}))
	}
	return all
}

// first returns the places of the letters of p in a long word, as firstBy, and last as lastBy.
func (w pieces) first(p string) []int64 {
	places, i := []int64{}, int64(0)
	for k := range len(p) {
		next := nextBy(w, p[k:k+1], i)
		if next < 0 {
			break
		}
		places = append(places, next)
		i = next + 1
	}
	return places
}

func (w pieces) last(p string) []int64 {
	places := w.turned().first(turnedBy(p))
	slices.Reverse(places)
	for k := range places {
		places[k] = w.length() - 1 - places[k]
	}
	return places
}

// turnedBy returns a short word turned.
func turnedBy(w string) string {
	return pieces{{w, 1}}.turned()[0].word
}

// spare returns which power of p is scattered in a long word: each piece is read word by word until a
// letter of p comes again at the beginning of a word, from where on it goes around.
func (w pieces) spare(p string) int64 {
	passed, size := int64(0), int64(len(p))
	for _, q := range w {
		met, behind := map[int64]int{}, []int64{}
		for left := q.times; left > 0; {
			k, again := met[passed%size]
			if again {
				round := int64(len(behind) - k)
				passed += left / round * (passed - behind[k])
				left %= round
				met, behind = map[int64]int{}, nil
				continue
			}
			met[passed%size] = len(behind)
			behind = append(behind, passed)
			passed += passedBy(q.word, p, passed%size)
			left--
		}
	}
	return passed / size
}

// gone returns t times x and t * (t - 1) / 2 times y: what is added in each of t times, and
// for each time and each one ahead of it.
func gone(t, x, y int64) *big.Int {
	sum := new(big.Int).Mul(big.NewInt(t), big.NewInt(x))
	ways := new(big.Int).Binomial(t, 2)
	return sum.Add(sum, ways.Mul(ways, big.NewInt(y)))
}

// inversions returns the number of inversions of a long word.
func (w pieces) inversions() *big.Int {
	all := new(big.Int)
	for k, p := range w {
		between := int64(0)
		for i, x := range each() {
			for _, y := range each()[:i] {
				between += int64(strings.Count(p.word, x) * strings.Count(p.word, y))
				all.Add(all, new(big.Int).Mul(big.NewInt(w[:k].count(x)), big.NewInt(w[k:k+1].count(y))))
			}
		}
		all.Add(all, gone(p.times, inversionsBy(p.word), between))
	}
	return all
}

// placeSum returns the sum of the places of a letter of a long word.
func (w pieces) placeSum(letter string) *big.Int {
	all := new(big.Int)
	for k, p := range w {
		here := int64(strings.Count(p.word, letter))
		all.Add(all, gone(p.times, placeSumBy(p.word, letter), here*int64(len(p.word))))
		all.Add(all, new(big.Int).Mul(big.NewInt(w[:k].length()), big.NewInt(w[k:k+1].count(letter))))
	}
	return all
}

// climb returns the climb of a long word: the least and the greatest height of a piece are in its first word or in its last one.
func (w pieces) climb(weights []int64) impl.Climb {
	var c impl.Climb
	for _, p := range w {
		heights := heightsBy(p.word, weights)
		whole := heights[len(p.word)]
		for _, start := range []int64{c.Total, c.Total + (p.times-1)*whole} {
			c.Low = min(c.Low, start+slices.Min(heights))
			c.High = max(c.High, start+slices.Max(heights))
		}
		c.Total += p.times * whole
	}
	return c
}

// below returns the least number of letters of a long word behind which the height is less than a bound,
// which is not among the very least numbers, -ErrNotFound if there is none.
func (w pieces) below(weights []int64, bound int64) int64 {
	height, n := int64(0), int64(0)
	for _, p := range w {
		heights := heightsBy(p.word, weights)
		whole, lowest := heights[len(p.word)], slices.Min(heights)
		over := int64(0) // words that are passed over
		if height+lowest >= bound && whole >= 0 {
			over = p.times
		} else if height+lowest >= bound {
			over = min(p.times, (height+lowest-bound)/-whole+1)
		}
		if over < p.times {
			for k, h := range heights {
				if height+over*whole+h < bound {
					return n + over*int64(len(p.word)) + int64(k)
				}
			}
		}
		height += p.times * whole
		n += p.times * int64(len(p.word))
	}
	return -impl.ErrNotFound
}

// print returns the print of a long word: that of a piece is the one of its word, times a geometric series.
func (w pieces) print(base, modulus int64) int64 {
	sum, power, m := new(big.Int), big.NewInt(1), big.NewInt(modulus)
	for _, p := range w {
		x, times := new(big.Int).Exp(big.NewInt(base), big.NewInt(int64(len(p.word))), nil), big.NewInt(p.times)
		here := seriesBy(x, times, m)
		here.Mul(here, big.NewInt(printBy(p.word, base, modulus)))
		sum.Add(sum, here.Mul(here, power))
		power.Mul(power, new(big.Int).Exp(x, times, m))
	}
	return restOf(sum, modulus)
}

// seriesBy returns the sum of the powers of x, the exponents being less than times, up to multiples of m.
func seriesBy(x, times, m *big.Int) *big.Int {
	one := big.NewInt(1)
	less := new(big.Int).Sub(x, one)
	switch less.Sign() {
	case -1: // x is 0, and only its power with the exponent 0 is not
		return one
	case 0:
		return new(big.Int).Set(times)
	}
	sum := new(big.Int).Exp(x, times, new(big.Int).Mul(m, less))
	return sum.Div(sum.Sub(sum, one), less)
}
