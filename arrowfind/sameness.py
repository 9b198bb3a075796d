"""Nets that say the same: their ties and corners, and what tells two nets apart."""

from arrowfind.errors import Unlike
from arrowfind.nets import are_tied, elders_of, names_below, sorted_rows


def ties_of(net):
    return [(one, other) for one, other in pairs_of(net[0]) if are_tied(net, one, other)]


def corners_of(net):
    names, arrows = net
    corners = []
    for one, other in pairs_of(names):
        if not are_tied(net, one, other):
            middles = [name for name in names if (one, name) in arrows and (other, name) in arrows]
            corners.extend([(one, middle, other) for middle in middles])
    return sorted_rows(names, corners)


def say_same(first, second):
    refuse_unlike_names(first, second)
    return ties_of(first) == ties_of(second) and corners_of(first) == corners_of(second)


def told_apart(first, second):
    refuse_unlike_names(first, second)
    found = roads_apart(first, second)
    if not found:
        return None
    road, parted_in_first = found[0]
    one, other = road[0], road[-1]
    held = list_that_parts(first if parted_in_first else second, one, other)
    return (one, other, held, parted_in_first, road)


def refuse_unlike_names(first, second):
    if first[0] != second[0]:
        raise Unlike("the nets haven't the same names in the same order")


# The ties and corners that one net alone has, as roads of it, each with whether it is the first
# net that hasn't it. Ties go ahead: a corner tells two nets apart where they have the same ties.
# Then the net without it passes its middle, so every list that parts the ends there holds the
# middle, and the net with it has a held meeting there.
def roads_apart(first, second):
    found = []
    for firsts, seconds in (
        (ties_of(first), ties_of(second)),
        (corners_of(first), corners_of(second)),
    ):
        found.extend([(list(row), True) for row in seconds if row not in firsts])
        found.extend([(list(row), False) for row in firsts if row not in seconds])
    return found


# A name is parted by its elders from every name that isn't tied to it and isn't below it.
def list_that_parts(net, one, other):
    lower = one if one in names_below(net, other) else other
    return list(elders_of(net, lower))


def pairs_of(names):
    pairs = []
    for place, one in enumerate(names):
        pairs.extend([(one, other) for other in names[place + 1:]])
    return pairs
