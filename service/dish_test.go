package service_test

import (
	"cmp"
	"math/rand"
	"slices"
	"testing"

	"trestle/api"
	"trestle/service"
)

// P11.2: the chapter's example.
func TestDishesOfExample(t *testing.T) {
	p, part := dinner()
	if got := service.Plates(p, part); !slices.Equal(got, []int{2, 1, 1}) {
		t.Error("Plates", got)
	}
	want := []service.Dish{{Table: 0, N: 1}, {Table: 0, Diet: "fish", N: 1}, {Table: 1, Diet: "fish", N: 1}, {Table: 2, N: 1}}
	if got := service.Dishes(p, part); !slices.Equal(got, want) {
		t.Error("Dishes", got)
	}
	if got := service.Serve(p, part); !slices.Equal(got, []int{0, 2, 1}) {
		t.Error("Serve", got)
	}
}

// P11.2: diets at a table are in the order of their names, and equal ones are counted together.
func TestDietsInOrder(t *testing.T) {
	p := api.Problem{Tables: []api.Table{{Name: "z", Shape: api.Round, A: 3}, {Name: "a", Shape: api.Round, A: 8}}}
	for i, diet := range []string{"fish", "", "fishegg", "egg", "fish", "", "zucchini", "egg", "fish"} {
		p.Guests = append(p.Guests, api.Guest{Name: string(rune('z' - i)), Diet: diet})
	}
	want := []service.Dish{{0, "egg", 1}, {0, "fish", 1}, {1, "", 2}, {1, "egg", 1}, {1, "fish", 2}, {1, "fishegg", 1}}
	if got := service.Dishes(p, []int{10, 9, 8, 7, 6, 5, -1, 0, 1}); !slices.Equal(got, want) {
		t.Error("Dishes", got)
	}
}

// P11.2: the order of service, by the least class at a table and not by the sum, the first one or those who stand.
func TestServe(t *testing.T) {
	p, part := feast(loads(2, 2, 1, 0, 2, 2)...)
	for _, x := range []struct{ class, want []int }{
		{nil, []int{0, 1, 2, 4, 5}},
		{[]int{3, 3, 2, 2, 1, 0, 0, 3, 3}, []int{4, 2, 1, 0, 5}},
		{[]int{5, 4, 1, 63, 2, 63, 0, 3, 3}, []int{4, 1, 2, 5, 0}},
		{[]int{7, 7, 7, 7, 7, 7, 7, 7, 7}, []int{0, 1, 2, 4, 5}},
		{[]int{7, 7, 7, 6, 7, 7, 6, 7, 7}, []int{1, 4, 0, 2, 5}},
		{[]int{63, 63, 63, 63, 63, 63, 63, 63, 62}, []int{5, 0, 1, 2, 4}},
	} {
		p.Class = x.class
		if got := service.Serve(p, part); !slices.Equal(got, x.want) {
			t.Errorf("classes %v: %v", x.class, got)
		}
	}
	p.Class = []int{9, 8, 7, 6, 5, 4, 3, 2, 1}
	if got := service.Serve(p, []int{0, 24, 48, 72, 96, 120, -1, -1, -1}); !slices.Equal(got, []int{5, 4, 3, 2, 1, 0}) {
		t.Error("Serve", got)
	}
	if got := service.Serve(p, []int{0, 24, -1, -1, -1, -1, -1, -1, -1}); !slices.Equal(got, []int{1, 0}) {
		t.Error("Serve", got)
	}
}

// P11.2: plates, dishes and the order of service of many halls.
func TestDishesOfMany(t *testing.T) {
	r := rand.New(rand.NewSource(3))
	for range 1500 {
		p, part := anyFeast(r, r.Intn(17))
		var plates, least []int
		var dishes []service.Dish
		for i := range p.Tables {
			there := sitters(p, part, i)
			plates = append(plates, len(there))
			class := 64
			for _, g := range there {
				c := 0
				if len(p.Class) > 0 {
					c = p.Class[g]
				}
				class = min(class, c)
			}
			least = append(least, class)
			for _, diet := range []string{"", "egg", "fish", "fishegg"} {
				d := service.Dish{Table: i, Diet: diet}
				for _, g := range there {
					if p.Guests[g].Diet == diet {
						d.N++
					}
				}
				if d.N > 0 {
					dishes = append(dishes, d)
				}
			}
		}
		if got := service.Plates(p, part); !slices.Equal(got, plates) {
			t.Fatalf("Plates(%v, %v): %v", p, part, got)
		}
		if got := service.Dishes(p, part); !slices.Equal(got, dishes) {
			t.Fatalf("Dishes(%v, %v): %v", p, part, got)
		}
		tables := servedOf(p, part)
		slices.SortFunc(tables, func(t, u int) int { return cmp.Or(cmp.Compare(least[t], least[u]), cmp.Compare(t, u)) })
		if got := service.Serve(p, part); !slices.Equal(got, tables) {
			t.Fatalf("Serve(%v, %v): %v, not %v", p, part, got, tables)
		}
	}
}

// P11.2: tables at which nobody sits have no plates and no dishes, and are not served.
func TestNoDishes(t *testing.T) {
	p, _ := dinner()
	nobody := slices.Repeat([]int{-1}, 5)
	if got := service.Plates(p, nobody); !slices.Equal(got, []int{0, 0, 0}) {
		t.Error("Plates", got)
	}
	if len(service.Dishes(p, nobody)) != 0 || len(service.Serve(p, nobody)) != 0 {
		t.Error(service.Dishes(p, nobody), service.Serve(p, nobody))
	}
	var none api.Problem
	if len(service.Plates(none, nil)) != 0 || len(service.Dishes(none, nil)) != 0 || len(service.Serve(none, nil)) != 0 {
		t.Error("something of nothing")
	}
}

// P11.2: nothing of problems and partial plans that are not valid.
func TestDishesOfFails(t *testing.T) {
	for _, x := range allFails(t) {
		if len(service.Plates(x.p, x.part)) != 0 || len(service.Dishes(x.p, x.part)) != 0 || len(service.Serve(x.p, x.part)) != 0 {
			t.Errorf("%v, %v: %v, %v, %v", x.p, x.part, service.Plates(x.p, x.part), service.Dishes(x.p, x.part), service.Serve(x.p, x.part))
		}
	}
}
