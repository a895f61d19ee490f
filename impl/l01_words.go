package impl

import (
	"iter"
	"maps"
	"slices"
	"strings"
)

// Codes of errors.
const (
	OK          = 0
	ErrInvalid  = 1
	ErrRange    = 2
	ErrLimit    = 3
	ErrState    = 4
	ErrSyntax   = 5
	ErrNotFound = 6
	ErrBudget   = 7
	ErrProof    = 8
)

// Limits of plain words.
const (
	MaxPlain = 2000
	MaxIndex = 20
)

// Run are equal letters one behind the other.
type Run struct {
	Letter string
	Count  int64
}

// CodeName returns the name of an error code.
func CodeName(code int64) string {
	names := [...]string{"ok", "invalid", "range", "limit", "state", "syntax", "notfound", "budget", "proof"}
	if code < 0 || code >= int64(len(names)) {
		return ""
	}
	return names[code]
}

// isLetter reports whether a text is one of the four letters.
func isLetter(text string) bool {
	return len(text) == 1 && text[0] >= 'a' && text[0] <= 'd'
}

// ValidWord reports whether a text is a plain word.
func ValidWord(w string) bool {
	if len(w) > MaxPlain {
		return false
	}
	for i := range len(w) {
		if !isLetter(w[i : i+1]) {
			return false
		}
	}
	return true
}

// turned returns the letters of a word in the opposite order.
func turned(w string) string {
	letters := []byte(w)
	slices.Reverse(letters)
	return string(letters)
}

// TurnWord returns a word with its letters in the opposite order.
func TurnWord(w string) (string, int64) {
	if !ValidWord(w) {
		return "", ErrInvalid
	}
	return turned(w), OK
}

// PowerWord returns a word several times.
func PowerWord(w string, times int64) (string, int64) {
	if !ValidWord(w) {
		return "", ErrInvalid
	}
	if times < 0 {
		return "", ErrRange
	}
	// The empty word may be taken any number of times, also more often
	// than strings.Repeat would count.
	if w == "" {
		return "", OK
	}
	// A division, because the product may be greater than any int64.
	if times > int64(MaxPlain/len(w)) {
		return "", ErrLimit
	}
	return strings.Repeat(w, int(times)), OK
}

// CommonStart returns how many letters two words have in common from the beginning on.
func CommonStart(u, w string) (int64, int64) {
	if !ValidWord(u) || !ValidWord(w) {
		return 0, ErrInvalid
	}
	n := 0
	for n < len(u) && n < len(w) && u[n] == w[n] {
		n++
	}
	return int64(n), OK
}

// CompareWords orders two words.
func CompareWords(u, w string) (int64, int64) {
	if !ValidWord(u) || !ValidWord(w) {
		return 0, ErrInvalid
	}
	return int64(strings.Compare(u, w)), OK
}

// longestBorders returns, for each n from 0 to the length of w, the length of
// the longest border of its first n letters, 0 if they have none.
func longestBorders(w string) []int {
	longest := make([]int, len(w)+1)
	for end := 1; end < len(w); end++ {
		n := longest[end]
		for n > 0 && w[n] != w[end] {
			n = longest[n]
		}
		if w[n] == w[end] {
			n++
		}
		longest[end+1] = n
	}
	return longest
}

// periodSet returns all periods of a word: the length, and what is left of it
// behind each border.
func periodSet(w string) map[int64]bool {
	periods := map[int64]bool{}
	longest := longestBorders(w)
	// The borders of a word are its longest one and the borders of that one.
	for border := len(w); border > 0; border = longest[border] {
		periods[int64(len(w)-longest[border])] = true
	}
	return periods
}

// BordersOf returns the lengths of all borders.
func BordersOf(w string) ([]int64, int64) {
	if !ValidWord(w) {
		return nil, ErrInvalid
	}
	borders := []int64{}
	for period := range periodSet(w) {
		if border := int64(len(w)) - period; border > 0 {
			borders = append(borders, border)
		}
	}
	slices.Sort(borders)
	return borders, OK
}

// PeriodsOf returns all periods.
func PeriodsOf(w string) ([]int64, int64) {
	if !ValidWord(w) {
		return nil, ErrInvalid
	}
	return slices.Sorted(maps.Keys(periodSet(w))), OK
}

// RootOf returns the shortest word of which a word is a power, and how often.
func RootOf(w string) (string, int64, int64) {
	if !ValidWord(w) {
		return "", 0, ErrInvalid
	}
	if w == "" {
		return "", 0, ErrState
	}
	length := int64(len(w))
	root := length
	for period := range periodSet(w) {
		if length%period == 0 {
			root = min(root, period)
		}
	}
	return w[:root], length / root, OK
}

// IsPalindrome reports whether a word is turned to itself.
func IsPalindrome(w string) (bool, int64) {
	if !ValidWord(w) {
		return false, ErrInvalid
	}
	return w == turned(w), OK
}

// OccurrencesOf returns all places at which a word begins in another one.
func OccurrencesOf(p, w string) ([]int64, int64) {
	if !ValidWord(p) || !ValidWord(w) {
		return nil, ErrInvalid
	}
	if p == "" {
		return nil, ErrState
	}
	places := []int64{}
	for place := range len(w) {
		if strings.HasPrefix(w[place:], p) {
			places = append(places, int64(place))
		}
	}
	return places, OK
}

// FactorCount returns how many different words of a length occur.
func FactorCount(w string, length int64) (int64, int64) {
	if !ValidWord(w) {
		return 0, ErrInvalid
	}
	if length < 0 || length > int64(len(w)) {
		return 0, ErrRange
	}
	met := map[string]bool{}
	for end := int(length); end <= len(w); end++ {
		met[w[end-int(length):end]] = true
	}
	return int64(len(met)), OK
}

// groupsOf cuts a list where two elements next to each other are different.
func groupsOf[Element comparable](list []Element) [][]Element {
	groups := [][]Element{}
	start := 0
	for end := 1; end <= len(list); end++ {
		if end == len(list) || list[end] != list[start] {
			groups = append(groups, list[start:end])
			start = end
		}
	}
	return groups
}

// RunsOf returns the runs of a word.
func RunsOf(w string) ([]Run, int64) {
	if !ValidWord(w) {
		return nil, ErrInvalid
	}
	runs := []Run{}
	for _, group := range groupsOf([]byte(w)) {
		runs = append(runs, Run{Letter: string(group[:1]), Count: int64(len(group))})
	}
	return runs, OK
}

// runsFault returns the first error that runs have, whatever their word is.
func runsFault(runs []Run) int64 {
	for _, run := range runs {
		if !isLetter(run.Letter) {
			return ErrInvalid
		}
	}
	for _, run := range runs {
		if run.Count < 1 {
			return ErrRange
		}
	}
	for i := 1; i < len(runs); i++ {
		if runs[i].Letter == runs[i-1].Letter {
			return ErrState
		}
	}
	return OK
}

// WordOfRuns returns the word with some runs.
func WordOfRuns(runs []Run) (string, int64) {
	if fault := runsFault(runs); fault != OK {
		return "", fault
	}
	var word strings.Builder
	for _, run := range runs {
		// Held against what is left, because a sum may overflow.
		if run.Count > int64(MaxPlain-word.Len()) {
			return "", ErrLimit
		}
		word.WriteString(strings.Repeat(run.Letter, int(run.Count)))
	}
	return word.String(), OK
}

// LyndonFactors returns the Lyndon words that give a word.
func LyndonFactors(w string) ([]string, int64) {
	if !ValidWord(w) {
		return nil, ErrInvalid
	}
	factors := []string{}
	for start := 0; start < len(w); {
		// What is between start and end has the period end - match, and its
		// first letters of this number are a Lyndon word.
		end, match := start+1, start
		for end < len(w) && w[match] <= w[end] {
			if w[match] == w[end] {
				match++
			} else {
				match = start
			}
			end++
		}
		length := end - match
		for ; start <= match; start += length {
			factors = append(factors, w[start:start+length])
		}
	}
	return factors, OK
}

// shiftsOf goes through all shifts of a word, with the numbers of places by
// which they are. The empty word is its own and only shift.
func shiftsOf(w string) iter.Seq2[int64, string] {
	return func(yield func(int64, string) bool) {
		twice := w + w
		for k := range max(1, len(w)) {
			if !yield(int64(k), twice[k:k+len(w)]) {
				return
			}
		}
	}
}

// LeastShift returns the shift that comes first.
func LeastShift(w string) (int64, int64) {
	if !ValidWord(w) {
		return 0, ErrInvalid
	}
	best, least := w, int64(0)
shifts:
	for k, shift := range shiftsOf(w) {
		switch {
		case k > 0 && shift == w:
			// From here on there are only shifts that have been seen.
			break shifts
		case shift < best:
			best, least = shift, k
		}
	}
	return least, OK
}

// ShiftTo returns the shift that leads from a word to another one.
func ShiftTo(u, w string) (int64, int64) {
	if !ValidWord(u) || !ValidWord(w) {
		return 0, ErrInvalid
	}
	for k, shift := range shiftsOf(u) {
		if shift == w {
			return k, OK
		}
	}
	return 0, ErrNotFound
}

// FibonacciWord returns a Fibonacci word.
func FibonacciWord(n int64) (string, int64) {
	if n < 0 || n > MaxIndex {
		return "", ErrRange
	}
	word, next := "b", "a"
	for range n {
		if len(next) > MaxPlain {
			return "", ErrLimit
		}
		word, next = next, next+word
	}
	return word, OK
}

// exchanged returns a word with the letters "a" and "b" exchanged.
func exchanged(w string) string {
	return strings.NewReplacer("a", "b", "b", "a").Replace(w)
}

// ThueWord returns a Thue word.
func ThueWord(n int64) (string, int64) {
	if n < 0 || n > MaxIndex {
		return "", ErrRange
	}
	word := "a"
	for range n {
		word += exchanged(word)
		if len(word) > MaxPlain {
			return "", ErrLimit
		}
	}
	return word, OK
}
