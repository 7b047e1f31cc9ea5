package field_test

import (
	"fmt"
	"math/big"
	"math/rand"
	"testing"

	"lethe/field"
)

// both: an element, and its number as the tests reckon it, which is not taken modulo p but where it would grow without end.
type both struct {
	elem   field.Elem
	number *big.Int
}

func (a both) add(b both) both {
	return both{a.elem.Add(b.elem), new(big.Int).Add(a.number, b.number)}
}

func (a both) sub(b both) both {
	return both{a.elem.Sub(b.elem), new(big.Int).Sub(a.number, b.number)}
}

func (a both) mul(b both) both {
	return both{a.elem.Mul(b.elem), modP(new(big.Int).Mul(a.number, b.number))}
}

func (a both) square() both {
	return both{a.elem.Square(), modP(new(big.Int).Mul(a.number, a.number))}
}

func starts() []both {
	var out []both
	for _, n := range append(namedEdges(), draws(20, 6)...) {
		out = append(out, both{read(n), new(big.Int).Mod(n, power2(255))})
	}
	return out
}

// P6.1: hundreds of sums or differences one behind the other, nothing told between: of one number, of itself, in turns.
func TestLongSums(t *testing.T) {
	for i, a := range starts() {
		for k, b := range starts() {
			up, down, turns, doubled, back := a, a, a, a, a
			for n := range 400 {
				up = up.add(b)
				down = down.sub(b)
				doubled = doubled.add(doubled)
				back = b.sub(back)
				if n%3 == 0 {
					turns = turns.add(b)
				} else {
					turns = turns.sub(a)
				}
			}
			for what, got := range map[string]both{"sums": up, "differences": down, "in turns": turns, "doubled": doubled, "taken from another": back} {
				is(t, fmt.Sprintf("%s, from start %d with %d", what, i, k), got.elem, got.number)
			}
		}
	}
}

// P6.1, P6.4: products and squares of what long runs have left, and again.
func TestLongProducts(t *testing.T) {
	for i, a := range starts() {
		for k, b := range starts() {
			x, y := a, b
			for range 100 {
				x = x.mul(y).add(a).add(x)
				y = y.square().sub(x).sub(b)
			}
			is(t, fmt.Sprintf("products, from start %d with %d", i, k), x.elem, x.number)
			is(t, fmt.Sprintf("squares, from start %d with %d", i, k), y.elem, y.number)
		}
	}
}

// P6.1: drawn calls upon one another, thousands of them, nothing told between; then all is told.
func TestDrawnRuns(t *testing.T) {
	for seed := range int64(40) {
		random := rand.New(rand.NewSource(seed))
		pool := starts()
		for range 2000 {
			a, b := pool[random.Intn(len(pool))], pool[random.Intn(len(pool))]
			at := random.Intn(len(pool))
			switch random.Intn(9) {
			case 0, 1, 2:
				pool[at] = a.add(b)
			case 3, 4, 5:
				pool[at] = a.sub(b)
			case 6:
				pool[at] = a.mul(b)
			case 7:
				pool[at] = a.square()
			default:
				bit, to := random.Intn(2), random.Intn(len(pool))
				first, second := field.Swap(bit, pool[at].elem, pool[to].elem)
				if bit == 1 {
					pool[at].number, pool[to].number = pool[to].number, pool[at].number
				}
				if at != to {
					pool[at].elem, pool[to].elem = first, second
				}
			}
			pool[at].number = modP(pool[at].number)
		}
		for i, a := range pool {
			is(t, fmt.Sprintf("seed %d, place %d", seed, i), a.elem, a.number)
		}
	}
}

// P6.1: powers, inverses and roots of what a long run has left are those of its number.
func TestPowersBehindLongRuns(t *testing.T) {
	for i, a := range starts() {
		for range 300 {
			a = a.add(a).sub(starts()[6])
		}
		a.number = modP(a.number)
		what := fmt.Sprintf("start %d", i)
		if b := read(a.number); !a.elem.Equal(b) || !b.Equal(a.elem) {
			t.Fatalf("%s: not equal to its own number", what)
		}
		is(t, what+", inverse", a.elem.Inv(), modelInverse(a.number))
		checkRoot(t, a.elem, a.number)
		n := draws(int64(i), 1)[0]
		is(t, what+", power", a.elem.Pow(keyOf(n)), new(big.Int).Exp(a.number, n, p()))
	}
}
