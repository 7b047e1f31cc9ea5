package audit

// Find: every place at which those bytes stand.
func Find(image, what []byte) []int {
	if len(what) == 0 || len(what) > len(image) {
		return nil
	}
	m := matcherOf(what)
	var places []int
	n := 0
	for at, c := range image {
		n = m.next(n, c)
		if n == len(what) {
			places = append(places, at+1-n)
		}
	}
	return places
}

// matcher: finds bytes in one go, without looking at any byte of the image again: else long bytes that repeat themselves would take the product of both lengths.
type matcher struct {
	what []byte
	back []int // of the first n bytes of what: how many of its first bytes, fewer than n, they end with, at most
}

func matcherOf(what []byte) matcher {
	m := matcher{what: what, back: make([]int, len(what)+1)}
	for i := 1; i < len(what); i++ {
		m.back[i+1] = m.next(m.back[i], what[i])
	}
	return m
}

// next: with how many first bytes of what the bytes up to c end, if those ahead of c end with n of them.
func (m matcher) next(n int, c byte) int {
	for n > 0 && (n == len(m.what) || m.what[n] != c) {
		n = m.back[n]
	}
	if m.what[n] == c {
		n++
	}
	return n
}
