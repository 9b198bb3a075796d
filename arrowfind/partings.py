"""Partings of a net: which names are parted by which, and else a road that is open."""

from arrowfind.nets import elders_of, heirs_of, refuse_wrong_asks
from arrowfind.roads import has_held_below, meetings_of


def are_parted(net, one, other, held):
    refuse_wrong_asks(net[0], [one, other] + list(held))
    return not spots_of(other, spots_before(net, one, held))


# The spots come by the length of the way to them, so the first one of the other name has a
# shortest way, and such a way never comes to a name twice: it could go on the first time as it
# does the last time. Down, for then the name isn't held; up, for either the name isn't held and
# the way first came up to it, or the way turned upwards since, at the name or below it, and so
# a held one is below the name.
def open_road(net, one, other, held):
    refuse_wrong_asks(net[0], [one, other] + list(held))
    before = spots_before(net, one, held)
    ends = spots_of(other, before)
    if not ends:
        return None
    road = [one] + names_up_to(ends[0], before)
    return (road, [way_down(net, name, held) for name in meetings_of(net, road)])


def reach_of(net, one, held):
    refuse_wrong_asks(net[0], [one] + list(held))
    names = net[0]
    return sorted(spots_before(net, one, held), key=lambda spot: (names.index(spot[0]), spot[1]))


def spots_before(net, one, held):
    starts = heir_spots(net, one) + elder_spots(net, one)
    return spots_walked(starts, lambda spot: spots_from(net, spot, held))


# A dict: each spot to which one comes, the nearest first, with the spot from which one came to it
# (None for those from which one starts). From a spot one comes to those that onward tells of it.
def spots_walked(starts, onward):
    before = {}
    waiting = []
    for spot in starts:
        before[spot] = None
        waiting.append(spot)
    while waiting:
        here = waiting.pop(0)
        for spot in onward(here):
            if spot not in before:
                before[spot] = here
                waiting.append(spot)
    return before


def spots_from(net, spot, held):
    name, came_down = spot
    passes = name not in held
    goes_up = has_held_below(net, name, held) if came_down else passes
    downs = heir_spots(net, name) if passes else []
    ups = elder_spots(net, name) if goes_up else []
    return downs + ups


def heir_spots(net, name):
    return [(heir, True) for heir in heirs_of(net, name)]


def elder_spots(net, name):
    return [(elder, False) for elder in elders_of(net, name)]


def spots_of(name, before):
    return [spot for spot in before if spot[0] == name]


def names_up_to(spot, before):
    names = []
    while spot is not None:
        names.append(spot[0])
        spot = before[spot]
    return list(reversed(names))


# A name with a held one below it that isn't held itself has an heir with a held one below it.
def way_down(net, name, held):
    way = [name]
    while way[-1] not in held:
        heirs = [heir for heir in heirs_of(net, way[-1]) if has_held_below(net, heir, held)]
        way.append(heirs[0])
    return way
