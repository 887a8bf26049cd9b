package prog

import "paintbox/api"

// slotsOf answers the slots of a shader's variables, by their nodes. Of a node that there is not the slot is a zero one: programs that Link did not tell may say such.
func slotsOf(c api.Checked, variables []int) []api.Slot {
	var l []api.Slot
	for _, number := range variables {
		var slot api.Slot
		if number >= 0 && number < min(len(c.Tree.Nodes), len(c.Types)) {
			slot = api.Slot{Name: c.Tree.Nodes[number].Text, Type: c.Types[number]}
		}
		l = append(l, slot)
	}
	return l
}

// nameOf answers a slot's name.
func nameOf(slot api.Slot) string {
	return slot.Name
}

// itself answers a slot as it is.
func itself(slot api.Slot) api.Slot {
	return slot
}

// placeOf answers the place of the first one of which just this is told; false, if there is none.
func placeOf[E any, K comparable](l []E, key K, told func(E) K) (int, bool) {
	for place, one := range l {
		if told(one) == key {
			return place, true
		}
	}
	return 0, false
}

// carry answers the values of slots in another order: for each wanted one that of the name among those that are there; false, if one has none.
func carry(want, there []api.Slot, values []api.Vec) ([]api.Vec, bool) {
	var l []api.Vec
	for _, slot := range want {
		place, found := placeOf(there, slot.Name, nameOf)
		if !found || place >= len(values) {
			return nil, false
		}
		l = append(l, values[place])
	}
	return l, true
}
