package stock_test

import (
	"testing"

	"drayman/api"
	"drayman/stock"
)

// TestReached is of P12.3: beginning with New, every row of acts of small
// numbers. Each leaves a fit item, and all of them together reach each fit item
// that has so much.
func TestReached(t *testing.T) {
	const in = 7
	first, err := stock.New("tea")
	if err != api.OK {
		t.Fatalf("New is %d", err)
	}
	reached := map[api.Sku]bool{first: true}
	for next := []api.Sku{first}; len(next) > 0; next = next[1:] {
		for _, c := range calls() {
			for n := -3; n <= 3; n++ {
				got, err := check(t, c, next[0], n)
				if err == api.OK && got.In <= in && !reached[got] {
					reached[got] = true
					next = append(next, got)
				}
			}
		}
	}
	many := 0
	everySmall(in+1, func(x api.Sku) {
		if x.In > in {
			return
		}
		many++
		if !reached[x] {
			t.Errorf("not reached: %v", x)
		}
	})
	if len(reached) != many {
		t.Errorf("reached are %d items of %d", len(reached), many)
	}
}

// TestRows is of P12.3: long rows of acts. What came in is counted apart, act
// by act; an act that is refused changes nothing.
func TestRows(t *testing.T) {
	done, refused := map[string]int{}, map[api.Errno]int{}
	for seed := range 60 {
		chance := chances(seed)
		x, err := stock.New(goodNames()[seed%len(goodNames())])
		if err != api.OK {
			t.Fatalf("New is %d", err)
		}
		in := 0
		for range 2000 {
			c := calls()[chance(7)]
			n := someNumber(chance, x)
			got, err := check(t, c, x, n)
			if err != api.OK {
				refused[err]++
				continue
			}
			if c.name == "Restock" || c.name == "Adjust" {
				in += n
			}
			if got.In != in || got.Hand+got.Held+got.Kept+got.Sent != in || got.Name != x.Name {
				t.Fatalf("%s(%v, %d) is %v; %d came in", c.name, x, n, got, in)
			}
			done[c.name]++
			x = got
		}
	}
	for _, c := range calls() {
		if done[c.name] < 1000 {
			t.Errorf("only %d acts were %s", done[c.name], c.name)
		}
	}
	for _, err := range []api.Errno{api.ErrRange, api.ErrStock, api.ErrOver} {
		if refused[err] < 1000 {
			t.Errorf("only %d acts were refused with %d", refused[err], err)
		}
	}
	if refused[api.ErrBad] > 0 {
		t.Errorf("%d acts were refused with ErrBad", refused[api.ErrBad])
	}
}

// someNumber is a number that may be handed to an act of x: small, at an edge,
// or a count of x, or what leads to Most, or one beside these.
func someNumber(chance func(n int) int, x api.Sku) int {
	switch chance(5) {
	case 0:
		return chance(20) - 4
	case 1:
		return []int{1, -1}[chance(2)]*[]int{maxQty, most, 1 << 32, most / 2, most / 8}[chance(5)] + chance(3) - 1
	case 2:
		return *count(&x, chance(5)) + chance(3) - 1
	case 3:
		return []int{1, -1}[chance(2)] * chance(maxQty)
	}
	return []int{most - x.In, -x.Hand}[chance(2)] + chance(3) - 1
}

// chances makes the same row of numbers, each below n, of each seed.
func chances(seed int) func(n int) int {
	x := uint64(seed)*2654435761 + 12345
	return func(n int) int {
		x = x*6364136223846793005 + 1442695040888963407
		return int(x>>33) % n
	}
}

// TestThere is of P12.3 and P12.4: all the way and back again, by each number;
// what was sent stays.
func TestThere(t *testing.T) {
	for _, n := range []int{1, 2, 3, 1000, maxQty - 1, maxQty} {
		x, _ := stock.New("tea")
		x, _ = stock.Restock(x, n)
		way := []move{moves()[0], moves()[2], moves()[3], moves()[1]}
		at := []api.Sku{of(0, n, 0, 0), of(0, 0, n, 0), of(0, n, 0, 0), of(n, 0, 0, 0)}
		for i, m := range way {
			x, _ = checkIs(t, m.call(), x, n, at[i], api.OK)
		}
		for i, m := range []move{moves()[0], moves()[2], moves()[4]} {
			x, _ = checkIs(t, m.call(), x, n, []api.Sku{of(0, n, 0, 0), of(0, 0, n, 0), of(0, 0, 0, n)}[i], api.OK)
		}
		for _, m := range moves() {
			checkIs(t, m.call(), x, 1, api.Sku{}, api.ErrStock)
		}
		checkIs(t, adjust(), x, -1, api.Sku{}, api.ErrStock)
	}
}
