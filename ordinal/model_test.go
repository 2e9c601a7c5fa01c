package ordinal

import (
	"cmp"
	"slices"

	"lispprover/api"
)

// model is an ordinal in another form: the powers of its normal form, the highest first. A finite ordinal is a multiple of w^0. Its arithmetic follows other definitions than those of the chapter.
type model []multipleOfPower

type multipleOfPower struct {
	exponent    model
	coefficient int
}

func (m model) object() api.Object {
	if len(m) == 0 {
		return fin(0)
	}
	if len(m[0].exponent) == 0 {
		return fin(m[0].coefficient)
	}
	return w(m[0].exponent.object(), fin(m[0].coefficient), m[1:].object())
}

func (m model) compare(n model) int {
	return slices.CompareFunc(m, n, func(p, q multipleOfPower) int {
		return cmp.Or(p.exponent.compare(q.exponent), cmp.Compare(p.coefficient, q.coefficient))
	})
}

// plus drops all powers of m that are lower than the first one of n.
func (m model) plus(n model) model {
	if len(n) == 0 {
		return m
	}
	var sum model
	coefficient := n[0].coefficient
	for _, p := range m {
		switch p.exponent.compare(n[0].exponent) {
		case 1:
			sum = append(sum, p)
		case 0:
			coefficient += p.coefficient
		}
	}
	sum = append(sum, multipleOfPower{n[0].exponent, coefficient})
	return append(sum, n[1:]...)
}

// times adds m, or the power that it becomes, as often as n says.
func (m model) times(n model) model {
	var product model
	if len(m) == 0 {
		return product
	}
	for _, p := range n {
		step := m
		if len(p.exponent) > 0 {
			step = model{{m[0].exponent.plus(p.exponent), 1}}
		}
		for range p.coefficient {
			product = product.plus(step)
		}
	}
	return product
}

// finite returns the model of n.
func finite(n int) model {
	if n == 0 {
		return nil
	}
	return model{{nil, n}}
}

// power returns the model of w^e * c.
func (e model) power(c int) model {
	return model{{e, c}}
}

// below returns an ordinal less than m, unless that is 0: for a successor the one before it, for a limit the element n of a sequence that converges to it.
func (m model) below(n int) model {
	if len(m) == 0 {
		return m
	}
	last := m[len(m)-1]
	lower := slices.Clone(m[:len(m)-1])
	if last.coefficient > 1 {
		lower = append(lower, multipleOfPower{last.exponent, last.coefficient - 1})
	}
	e := last.exponent
	if len(e) == 0 {
		return lower
	}
	if isSuccessor := len(e[len(e)-1].exponent) == 0; isSuccessor {
		return append(lower, multipleOfPower{e.below(n), n})
	}
	return append(lower, multipleOfPower{e.below(n), 1})
}

// generator yields the same ordinals in every run.
type generator uint64

func (g *generator) below(n int) int {
	*g = *g*6364136223846793005 + 1442695040888963407
	return int(uint64(*g)>>33) % n
}

// model returns an ordinal of at most so many levels of exponents.
func (g *generator) model(levels int) model {
	if levels == 0 || g.below(5) == 0 {
		return finite(g.below(4))
	}
	var m model
	for range 1 + g.below(3) {
		m = m.plus(g.model(levels - 1).power(1 + g.below(3)))
	}
	return m
}
